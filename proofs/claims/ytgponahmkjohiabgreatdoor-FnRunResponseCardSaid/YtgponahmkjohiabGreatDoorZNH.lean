import Derived.Test.YtgponahmkjohiabGreatDoorZNE
import Derived.Maps.AppendAt
import Derived.Test.YtgponahmkjohiabGreatDoorZND
import Derived.Test.YtgponahmkjohiabGreatDoorZNA
import Derived.Deep.RegionHeld3
namespace Go.Proofs.YtgponahmkjohiabGreatDoor
section
open Go.RowKit
set_option linter.unusedVariables false
/-- A list of jobs of the call's own that is not nil, and whether there is one. -/
def JsPut (js : List Jb) (b : Bool) (w : World) (e : Ending) (w' : World) : Prop :=
  ∃ (g c : Nat), e = .returned (.tuple #[.slice (some ⟨g, 0, none⟩) js.length c, .bool b]) ∧ OwnJ w' w.heap.size (.slice (some ⟨g, 0, none⟩) js.length c) js ∧ Below w.heap.size w w'
theorem addr_add3 (b o j : Nat) : (⟨b, o, none⟩ : Addr).add j = ⟨b, o + j, none⟩ := by unfold Addr.add; split <;> simp_all
theorem Jbs.cells3 {w : World} {B b o n : Nat} {ts : List Jb} (h : Jbs w B (some ⟨b, o, none⟩) n ts) : ∀ j u, (ts.flatMap Jb.cells)[j]? = some u → w.cell? ((⟨b, o, none⟩ : Addr).add j) = some u := by
  intro j u hu
  have hj : j < ts.length * 3 := by rw [← jcells_length]; exact (List.getElem?_eq_some_iff.1 hu).1
  obtain ⟨t, ht⟩ : ∃ t, ts[j / 3]? = some t := ⟨ts[j / 3]'(by omega), List.getElem?_eq_getElem _⟩
  have hj5 : j = j / 3 * 3 + j % 3 := by omega
  have hm : j % 3 < 3 := Nat.mod_lt _ (by decide)
  have hg := jcells_get ts (j / 3) t ht (j % 3) hm
  rw [← hj5, hu] at hg
  obtain ⟨_, C⟩ := h.get ht
  rw [addr_add3]
  obtain ⟨c0, c1, c2⟩ := C
  rcases (by omega : j % 3 = 0 ∨ j % 3 = 1 ∨ j % 3 = 2) with h | h | h <;> rw [h] at hg hj5 <;> simp only [Jb.cells] at hg <;> (injection hg with hg; subst hg)
  · rw [show o + j = o + j / 3 * 3 by omega]; exact c0
  · rw [show o + j = o + j / 3 * 3 + 1 by omega]; exact c1
  · rw [show o + j = o + j / 3 * 3 + 2 by omega]; exact c2
theorem OwnJ.some_ {w : World} {B : Nat} {v : Value} {js : List Jb} (h : OwnJ w B v js) (hn : 0 < js.length) : ∃ g c, v = .slice (some ⟨g, 0, none⟩) js.length c := by
  rcases h.2 with ⟨e, h0⟩ | ⟨g, cap, cur, e, _⟩
  · omega
  · exact ⟨g, cap, e⟩
set_option maxRecDepth 100000 in
set_option maxHeartbeats 8000000 in
theorem sPut_is (w : World) (A : Option Addr) (n c : Nat) (ts : List Tk) (h : Tks w w.heap.size A n ts) (hn : n ≤ 1048576) (bj oj m c2 : Nat) (js : List Jb) (h2 : Jbs w w.heap.size (some ⟨bj, oj, none⟩) m js) (hc : m ≤ c2) (j : Jb) (b : Bool) (hb : putB ts js j = b) :
    Calls Tryz.prog 127 #[.slice A n c, .slice (some ⟨bj, oj, none⟩) m c2, j.val] w (JsPut (putV ts js j) b w) := by
  obtain ⟨i0, hi, hz0, hz1, hz2⟩ := info_parts info_job
  have H := Lib.hid h
  have J := Lib.hid h2
  have HM := Lib.hid h2.len
  clear h h2
  obtain ⟨ta, tm, ne⟩ := j
  cases h1 : jobsB ts js
  · obtain rfl : b = false := by rw [← hb]; unfold putB; rw [h1]; rfl
    have hpv : putV ts js ⟨ta, tm, ne⟩ = [] := by unfold putV; rw [hb]; rfl
    rw [hpv]
    have HJ1 := Lib.hid h1
    clear hb h1 hpv
    unfold Jb.val
    go_enter Tryz.func127, Tryz.ntmps127
    go_wp2_with fail
    refine (sJobs_is _ A n c ts ((H.out.below (bl_alloc (Below.refl w.heap.size w) _)).more (by simp)) hn _ m c2 js ((J.out.below (bl_alloc (Below.refl w.heap.size w) _)).more (by simp)) false HJ1.out).mono ?_
    rintro e w1 ⟨rfl, hb⟩
    have HB1 := Lib.hid (show Below w.heap.size w w1 from bl_trans (bl_alloc (Below.refl w.heap.size w) _) hb)
    have hs1 := HB1.out.size
    clear hb
    go_wp2
    refine bodyPost_ret (v := .tuple #[.slice (some ⟨w1.heap.size, 0, none⟩) 0 0, .bool false]) (by simp [results, Tryz.results127, go_sem]) rfl ⟨w1.heap.size, 0, rfl, (OwnJ.empty w1).less hs1, bl_alloc HB1.out _⟩
  have hm60 : m ≤ 60 := by have := jobs_len h1; rw [HM.out] at this; exact this
  have HJ1 := Lib.hid h1
  have HR := Lib.hid hb
  clear h1 hb
  unfold Jb.val
  go_enter Tryz.func127, Tryz.ntmps127
  go_wp2_with fail
  refine (sJobs_is _ A n c ts ((H.out.below (bl_alloc (Below.refl w.heap.size w) _)).more (by simp)) hn _ m c2 js ((J.out.below (bl_alloc (Below.refl w.heap.size w) _)).more (by simp)) true HJ1.out).mono ?_
  rintro e w1 ⟨rfl, hb⟩
  have HB1 := Lib.hid (show Below w.heap.size w w1 from bl_trans (bl_alloc (Below.refl w.heap.size w) _) hb)
  have BJ1 := Lib.hid ((Blk.new w 46 #[.int .i64 ta, .int .i64 tm, .int .i64 ne]).below hb (by simp))
  clear hb
  go_wp2
  go_loopw [8] (fun i wr => ∃ q : Nat, q ≤ m ∧ i = .int .i64 q ∧ Hid (∀ a ∈ js.drop q, befB ⟨ta, tm, ne⟩ a = true) ∧ Hid (Blk wr w.heap.size 46 #[.int .i64 ta, .int .i64 tm, .int .i64 ne]) ∧ Hid (Below w.heap.size w wr)) (fun i _ => (intOf i).toNat)
  case atStart => exact ⟨m, Nat.le_refl _, rfl, Lib.hid (by intro a ha; rw [List.drop_of_length_le (by rw [HM.out]; omega)] at ha; simp at ha), BJ1, HB1⟩
  case round =>
    obtain ⟨q, hq, rfl, HD, BJ, HB⟩ := hrel
    obtain ⟨w4, hw4⟩ : ∃ W, W = wr := ⟨_, rfl⟩
    subst hw4
    clear BJ1 HB1
    have hgl : w.heap.size < w4.heap.size := BJ.out.lt
    by_cases hq0 : q = 0
    · subst hq0
      have HP := Lib.hid (show putAt ⟨ta, tm, ne⟩ js = 0 from putAt_is (Nat.zero_le _) HD.out (fun i hi => by omega))
      clear HD
      have cj := BJ.out.cell
      go_wp2_with fail
      refine wp_region_held_drew (S := (fun W => True)) (by kernel_rfl) (by trivial) (fun hHeld0 => ?_)
      refine wpAnyH_take (i := 0) (oi := { dst := some 17, op := Go.Op.move (Go.Operand.tmp 8), type := 3, pos := "l6_jobs.go:158", after := #[], guard := none }) (v := ?vu1x0) rfl (by kernel_rfl) (by kernel_rfl) (by kernel_rfl) (fun _ _ _ h => h) (Or.inl ⟨by rfl, ?hyu1x0⟩) hHeld0 ?restu1x0
      case hyu1x0 => first | (intro w hSw; (try dsimp only at hSw); go_simp; done) | (intro w hSw; (try dsimp only at hSw); go_simp; with_reducible rfl)
      (try simp only [Act.put, List.setIfInBounds_toArray, List.set_cons_zero, List.set_cons_succ])
      refine wpAnyH_take (i := 1) (oi := { dst := some 18, op := Go.Op.binOp Go.BinOp.gtr 3 (Go.Operand.tmp 17) (Go.Operand.const (Go.Value.int Go.IntKind.i64 0)) 3, type := 4, pos := "l6_jobs.go:158", after := #[{ on := 0, ground := Go.Ground.data }], guard := none }) (v := ?vu1x1) rfl (by kernel_rfl) (by kernel_rfl) (by kernel_rfl) (fun _ _ _ h => h) (Or.inl ⟨by rfl, ?hyu1x1⟩) hHeld0 ?restu1x1
      case hyu1x1 => first | (intro w hSw; (try dsimp only at hSw); go_simp; done) | (intro w hSw; (try dsimp only at hSw); go_simp; with_reducible rfl)
      (try simp only [Act.put, List.setIfInBounds_toArray, List.set_cons_zero, List.set_cons_succ])
      refine wpAnyH_take (i := 2) (oi := { dst := some 19, op := Go.Op.move (Go.Operand.tmp 18), type := 4, pos := "l6_jobs.go:158", after := #[{ on := 1, ground := Go.Ground.data }], guard := none }) (v := ?vu1x2) rfl (by kernel_rfl) (by kernel_rfl) (by kernel_rfl) (fun _ _ _ h => h) (Or.inl ⟨by rfl, ?hyu1x2⟩) hHeld0 ?restu1x2
      case hyu1x2 => first | (intro w hSw; (try dsimp only at hSw); go_simp; done) | (intro w hSw; (try dsimp only at hSw); go_simp; with_reducible rfl)
      (try simp only [Act.put, List.setIfInBounds_toArray, List.set_cons_zero, List.set_cons_succ])
      refine wpAnyH_take (i := 3) (oi := { dst := some 20, op := Go.Op.load 46 (Go.Operand.tmp 5), type := 46, pos := "l6_jobs.go:158", after := #[{ on := 2, ground := Go.Ground.guard }], guard := some (2, true) }) (v := undef) rfl (by kernel_rfl) (by kernel_rfl) (by kernel_rfl) (fun _ _ _ h => h) (Or.inr ⟨by rfl, by rfl⟩) hHeld0 ?_
      (try simp only [Act.put, List.setIfInBounds_toArray, List.set_cons_zero, List.set_cons_succ])
      refine wpAnyH_take (i := 4) (oi := { dst := some 21, op := Go.Op.move (Go.Operand.tmp 1), type := 24, pos := "l6_jobs.go:158", after := #[{ on := 2, ground := Go.Ground.guard }], guard := some (2, true) }) (v := undef) rfl (by kernel_rfl) (by kernel_rfl) (by kernel_rfl) (fun _ _ _ h => h) (Or.inr ⟨by rfl, by rfl⟩) hHeld0 ?_
      (try simp only [Act.put, List.setIfInBounds_toArray, List.set_cons_zero, List.set_cons_succ])
      refine wpAnyH_take (i := 5) (oi := { dst := some 22, op := Go.Op.move (Go.Operand.tmp 8), type := 3, pos := "l6_jobs.go:158", after := #[{ on := 2, ground := Go.Ground.guard }], guard := some (2, true) }) (v := undef) rfl (by kernel_rfl) (by kernel_rfl) (by kernel_rfl) (fun _ _ _ h => h) (Or.inr ⟨by rfl, by rfl⟩) hHeld0 ?_
      (try simp only [Act.put, List.setIfInBounds_toArray, List.set_cons_zero, List.set_cons_succ])
      refine wpAnyH_take (i := 6) (oi := { dst := some 23, op := Go.Op.binOp Go.BinOp.sub 3 (Go.Operand.tmp 22) (Go.Operand.const (Go.Value.int Go.IntKind.i64 1)) 3, type := 3, pos := "l6_jobs.go:158", after := #[{ on := 5, ground := Go.Ground.data }, { on := 2, ground := Go.Ground.guard }], guard := some (2, true) }) (v := undef) rfl (by kernel_rfl) (by kernel_rfl) (by kernel_rfl) (fun _ _ _ h => h) (Or.inr ⟨by rfl, by rfl⟩) hHeld0 ?_
      (try simp only [Act.put, List.setIfInBounds_toArray, List.set_cons_zero, List.set_cons_succ])
      refine wpAnyH_take (i := 7) (oi := { dst := some 24, op := Go.Op.indexAddr 24 (Go.Operand.tmp 21) (Go.Operand.tmp 23), type := 0, pos := "l6_jobs.go:158", after := #[{ on := 4, ground := Go.Ground.data }, { on := 6, ground := Go.Ground.data }, { on := 2, ground := Go.Ground.guard }], guard := some (2, true) }) (v := undef) rfl (by kernel_rfl) (by kernel_rfl) (by kernel_rfl) (fun _ _ _ h => h) (Or.inr ⟨by rfl, by rfl⟩) hHeld0 ?_
      (try simp only [Act.put, List.setIfInBounds_toArray, List.set_cons_zero, List.set_cons_succ])
      refine wpAnyH_take (i := 8) (oi := { dst := some 25, op := Go.Op.load 46 (Go.Operand.tmp 24), type := 46, pos := "l6_jobs.go:158", after := #[{ on := 7, ground := Go.Ground.data }, { on := 2, ground := Go.Ground.guard }], guard := some (2, true) }) (v := undef) rfl (by kernel_rfl) (by kernel_rfl) (by kernel_rfl) (fun _ _ _ h => h) (Or.inr ⟨by rfl, by rfl⟩) hHeld0 ?_
      (try simp only [Act.put, List.setIfInBounds_toArray, List.set_cons_zero, List.set_cons_succ])
      refine wpAnyH_take (i := 9) (oi := { dst := some 26, op := Go.Op.call { callee := Go.Callee.value (Go.Operand.func 101), args := #[Go.Operand.tmp 20, Go.Operand.tmp 25], argTypes := #[46, 46] }, type := 4, pos := "l6_jobs.go:158", after := #[{ on := 3, ground := Go.Ground.data }, { on := 8, ground := Go.Ground.data }, { on := 2, ground := Go.Ground.chain }, { on := 2, ground := Go.Ground.guard }], guard := some (2, true) }) (v := undef) rfl (by kernel_rfl) (by kernel_rfl) (by kernel_rfl) (fun _ _ _ h => h) (Or.inr ⟨by rfl, by rfl⟩) hHeld0 ?_
      (try simp only [Act.put, List.setIfInBounds_toArray, List.set_cons_zero, List.set_cons_succ])
      refine wpAnyH_take (i := 10) (oi := { dst := some 27, op := Go.Op.pick (Go.Operand.tmp 19) (Go.Operand.tmp 26) (Go.Operand.const (Go.Value.bool false)), type := 4, pos := "l6_jobs.go:158", after := #[{ on := 2, ground := Go.Ground.data }, { on := 9, ground := Go.Ground.data }], guard := none }) (v := ?vu1x10) rfl (by kernel_rfl) (by kernel_rfl) (by kernel_rfl) (fun _ _ _ h => h) (Or.inl ⟨by rfl, ?hyu1x10⟩) hHeld0 ?restu1x10
      case hyu1x10 => first | (intro w hSw; (try dsimp only at hSw); go_simp; done) | (intro w hSw; (try dsimp only at hSw); go_simp; with_reducible rfl)
      (try simp only [Act.put, List.setIfInBounds_toArray, List.set_cons_zero, List.set_cons_succ])
      refine wpAnyH_done (by kernel_rfl) ?_ _
      have HT := Lib.hid (show Below w.heap.size w w4.drew from Below.drew HB.out)
      have BT := Lib.hid (show Blk w4.drew w.heap.size 46 #[.int .i64 ta, .int .i64 tm, .int .i64 ne] from BJ.out)
      clear cj HB BJ hgl
      generalize w4.drew = w7 at *
      have hpl : putL ⟨ta, tm, ne⟩ js = js.take 0 ++ ⟨ta, tm, ne⟩ :: js.drop 0 := by unfold putL; rw [HP.out]
      have hplen : (putL ⟨ta, tm, ne⟩ js).length = m + 1 := by rw [putL_len, HM.out]
      have htl : (js.take 0).length = 0 := by rw [List.length_take, HM.out]; omega
      have hdl : (js.drop 0).length = m := by rw [List.drop_zero, HM.out]
      have HPUT := Lib.hid hpl
      have HPLEN := Lib.hid hplen
      have HTL := Lib.hid htl
      have HDL := Lib.hid hdl
      clear hpl hplen htl hdl HP
      have hx7 : w.heap.size < w7.heap.size := BT.out.lt
      have hw7 : w.heap.size ≤ w7.heap.size := HT.out.size
      have qc : (((0 : Nat) : Int)) ≤ (c2 : Int) := by omega
      have qm : (((0 : Nat) : Int)) ≤ (m : Int) := by omega
      have qz : (0 : Int) ≤ (((0 : Nat) : Int)) := by omega
      
      by_cases hcq : c2 = 0
      · have hcq2 : 0 = c2 := hcq.symm
        subst hcq2
        have HDN := Lib.hid (show js.drop 0 = [] from List.drop_of_length_le (by rw [HM.out]; omega))
        go_wp2_with (first
          | (at_builtin; refine wpList_append_own _ rfl (.tmp 30) (.tmp 33) 24 rfl w7.heap.size 46 i0 _ 3 24 Tryz.underlying24 hi hz0 hz1 hz2 rfl (by decide) _ 0 [] rfl (OwnJ.empty w7) ⟨bj, oj, none⟩ 0 0 ((js.take 0).flatMap Jb.cells) rfl (by rw [jcells_length, HTL.out]) (Jbs.cells3 (((J.out.below (bl_alloc HT.out _)).take (by omega : 0 ≤ m)))) (jcells_one _) (by unfold maxLen; omega) (by omega) (by simp) ?_; intro v1 w8 hown1 hgrow1 _; have HO1 := Lib.hid (show OwnJ w8 w7.heap.size v1 (js.take 0) from by unfold OwnJ; rw [HTL.out]; simpa using hown1); have HB8 := Lib.hid (show Below w7.heap.size w7 w8 from (bl_alloc (Below.refl _ _) _).grown hgrow1 (by simp) (fun x e => (World.ownsRow.lt (OwnJ.empty w7) x e).1)); have BJ8 := Lib.hid (BT.out.below HB8.out hx7); have cj := BJ8.out.cell; obtain ⟨A3, c3, hv1⟩ := HO1.out.form; rw [HTL.out] at hv1; subst hv1; clear hown1 hgrow1)
          | (at_builtin; refine wpList_append_own _ rfl (.tmp 35) (.tmp 37) 24 rfl w7.heap.size 46 i0 _ 3 24 Tryz.underlying24 hi hz0 hz1 hz2 rfl (by decide) _ 0 ((js.take 0).flatMap Jb.cells) rfl (by have hh := HO1.out.alloc (.cells #[.int .i64 ta, .int .i64 tm, .int .i64 ne] 46); unfold OwnJ at hh; rw [HTL.out] at hh; exact hh) ⟨w8.heap.size, 0, none⟩ 1 1 (Jb.cells ⟨ta, tm, ne⟩) rfl rfl (cell_new3 _ ⟨ta, tm, ne⟩ _) (by intro u hu; exact jcells_one [⟨ta, tm, ne⟩] u (by simpa using hu)) (by unfold maxLen; omega) (by omega) (by have := HB8.out.size; simp; omega) ?_; intro v2 w9 hown2 hgrow2 _; have HO2 := Lib.hid (show OwnJ w9 w7.heap.size v2 (js.take 0 ++ [⟨ta, tm, ne⟩]) from OwnJ.snoc (by rw [HTL.out]; exact hown2)); have HB9 := Lib.hid ((bl_alloc HB8.out _).grown hgrow2 (by have := HB8.out.size; simp; omega) (fun k e => (World.ownsRow.lt HO1.out k e).1)); have HL2 := Lib.hid (show (js.take 0 ++ [(⟨ta, tm, ne⟩ : Jb)]).length = 1 by rw [List.length_append, HTL.out]; rfl); obtain ⟨g4, c4, hv2⟩ := HO2.out.some_ (by rw [HL2.out]; omega); rw [HL2.out] at hv2; subst hv2; have hw9 : w7.heap.size ≤ w9.heap.size := HB9.out.size; clear hown2 hgrow2 cj)
          | (at_builtin; refine wpList_append_own _ rfl (.tmp 39) (.tmp 42) 24 rfl w7.heap.size 46 i0 _ 3 24 Tryz.underlying24 hi hz0 hz1 hz2 rfl (by decide) _ 1 ((js.take 0 ++ [(⟨ta, tm, ne⟩ : Jb)]).flatMap Jb.cells) rfl (by have hh := HO2.out; unfold OwnJ at hh; rw [HL2.out] at hh; exact hh) ⟨bj, oj, none⟩ 0 0 ([] : List Value) rfl rfl (by intro j u hu; simp at hu) (by intro u hu; simp at hu) (by unfold maxLen; omega) (by omega) hw9 ?_; intro v3 w10 hown3 hgrow3 _; have HO3 := Lib.hid (show OwnJ w10 w7.heap.size v3 (putL ⟨ta, tm, ne⟩ js) from by rw [HPUT.out, HDN.out]; unfold OwnJ; rw [HL2.out]; simpa using hown3); have HB10 := Lib.hid (HB9.out.grown hgrow3 hw9 (fun k e => (World.ownsRow.lt HO2.out k e).1)); obtain ⟨g5, c5, hv3⟩ := HO3.out.some_ (by rw [HPLEN.out]; omega); rw [HPLEN.out] at hv3; subst hv3; clear hown3 hgrow3))
        have HT10 := Lib.hid (bl_trans HT.out HB10.out)
        have hrd := HO3.out.reads.2
        have HRD := Lib.hid hrd
        clear hrd
        cases hjb : jobsB ts (putL ⟨ta, tm, ne⟩ js)
        · have HJB := Lib.hid hjb
          obtain rfl : b = false := by rw [← HR.out]; unfold putB; rw [hjb]; simp
          have hpv : putV ts js ⟨ta, tm, ne⟩ = [] := by unfold putV; rw [HR.out]; rfl
          have HPV := Lib.hid hpv
          clear hjb hpv
          go_wp2_with fail
          refine (sJobs_is _ A n c ts ((H.out.below HT10.out).more HT10.out.size) hn _ (m + 1) c5 (putL ⟨ta, tm, ne⟩ js) HRD.out false HJB.out).mono ?_
          rintro e w11 ⟨rfl, hb⟩
          have HT11 := Lib.hid (bl_trans HT10.out hb)
          have hs11 := HT11.out.size
          clear hb
          go_wp2
          refine bodyPost_ret (v := .tuple #[.slice (some ⟨w11.heap.size, 0, none⟩) 0 0, .bool false]) (by simp [results, Tryz.results127, go_sem]) rfl (by rw [HPV.out]; exact ⟨w11.heap.size, 0, rfl, (OwnJ.empty w11).less hs11, bl_alloc HT11.out _⟩)
        · have HJB := Lib.hid hjb
          obtain rfl : b = true := by rw [← HR.out]; unfold putB; rw [hjb, HJ1.out]; rfl
          have hpv : putV ts js ⟨ta, tm, ne⟩ = putL ⟨ta, tm, ne⟩ js := by unfold putV; rw [HR.out]; rfl
          have HPV := Lib.hid hpv
          clear hjb hpv
          go_wp2_with fail
          refine (sJobs_is _ A n c ts ((H.out.below HT10.out).more HT10.out.size) hn _ (m + 1) c5 (putL ⟨ta, tm, ne⟩ js) HRD.out true HJB.out).mono ?_
          rintro e w11 ⟨rfl, hb⟩
          have HT11 := Lib.hid (bl_trans HT10.out hb)
          have HO11 := Lib.hid ((HO3.out.below hb).less hw7)
          clear hb
          go_wp2
          refine bodyPost_ret (v := .tuple #[.slice (some ⟨g5, 0, none⟩) (putL ⟨ta, tm, ne⟩ js).length c5, .bool true]) (by simp [results, Tryz.results127, go_sem, HPLEN.out]) rfl (by rw [HPV.out]; exact ⟨g5, c5, rfl, by have hh := HO11.out; rw [← HPLEN.out] at hh; exact hh, HT11.out⟩)
      · have k1 : ¬ ((0 : Nat) : Int) = (c2 : Int) := by omega
        have k2 : (((0 : Nat) : Int) == (c2 : Int)) = false := by rw [beq_eq_false_iff_ne]; exact k1
        have k3 : ¬ 0 = c2 := fun e => hcq e.symm
        go_wp2_with (first
          | (at_builtin; refine wpList_append_own _ rfl (.tmp 30) (.tmp 33) 24 rfl w7.heap.size 46 i0 _ 3 24 Tryz.underlying24 hi hz0 hz1 hz2 rfl (by decide) _ 0 [] rfl (OwnJ.empty w7) ⟨bj, oj, none⟩ 0 c2 ((js.take 0).flatMap Jb.cells) rfl (by rw [jcells_length, HTL.out]) (Jbs.cells3 (((J.out.below (bl_alloc HT.out _)).take (by omega : 0 ≤ m)))) (jcells_one _) (by unfold maxLen; omega) (by omega) (by simp) ?_; intro v1 w8 hown1 hgrow1 _; have HO1 := Lib.hid (show OwnJ w8 w7.heap.size v1 (js.take 0) from by unfold OwnJ; rw [HTL.out]; simpa using hown1); have HB8 := Lib.hid (show Below w7.heap.size w7 w8 from (bl_alloc (Below.refl _ _) _).grown hgrow1 (by simp) (fun x e => (World.ownsRow.lt (OwnJ.empty w7) x e).1)); have BJ8 := Lib.hid (BT.out.below HB8.out hx7); have cj := BJ8.out.cell; obtain ⟨A3, c3, hv1⟩ := HO1.out.form; rw [HTL.out] at hv1; subst hv1; clear hown1 hgrow1)
          | (at_builtin; refine wpList_append_own _ rfl (.tmp 35) (.tmp 37) 24 rfl w7.heap.size 46 i0 _ 3 24 Tryz.underlying24 hi hz0 hz1 hz2 rfl (by decide) _ 0 ((js.take 0).flatMap Jb.cells) rfl (by have hh := HO1.out.alloc (.cells #[.int .i64 ta, .int .i64 tm, .int .i64 ne] 46); unfold OwnJ at hh; rw [HTL.out] at hh; exact hh) ⟨w8.heap.size, 0, none⟩ 1 1 (Jb.cells ⟨ta, tm, ne⟩) rfl rfl (cell_new3 _ ⟨ta, tm, ne⟩ _) (by intro u hu; exact jcells_one [⟨ta, tm, ne⟩] u (by simpa using hu)) (by unfold maxLen; omega) (by omega) (by have := HB8.out.size; simp; omega) ?_; intro v2 w9 hown2 hgrow2 _; have HO2 := Lib.hid (show OwnJ w9 w7.heap.size v2 (js.take 0 ++ [⟨ta, tm, ne⟩]) from OwnJ.snoc (by rw [HTL.out]; exact hown2)); have HB9 := Lib.hid ((bl_alloc HB8.out _).grown hgrow2 (by have := HB8.out.size; simp; omega) (fun k e => (World.ownsRow.lt HO1.out k e).1)); have HL2 := Lib.hid (show (js.take 0 ++ [(⟨ta, tm, ne⟩ : Jb)]).length = 1 by rw [List.length_append, HTL.out]; rfl); obtain ⟨g4, c4, hv2⟩ := HO2.out.some_ (by rw [HL2.out]; omega); rw [HL2.out] at hv2; subst hv2; have hw9 : w7.heap.size ≤ w9.heap.size := HB9.out.size; clear hown2 hgrow2 cj)
          | (at_builtin; refine wpList_append_own _ rfl (.tmp 39) (.tmp 42) 24 rfl w7.heap.size 46 i0 _ 3 24 Tryz.underlying24 hi hz0 hz1 hz2 rfl (by decide) _ 1 ((js.take 0 ++ [(⟨ta, tm, ne⟩ : Jb)]).flatMap Jb.cells) rfl (by have hh := HO2.out; unfold OwnJ at hh; rw [HL2.out] at hh; exact hh) ⟨bj, oj, none⟩ m c2 ((js.drop 0).flatMap Jb.cells) rfl (by rw [jcells_length, HDL.out]) (Jbs.cells3 (show Jbs w9 w.heap.size (some ⟨bj, oj, none⟩) m (js.drop 0) from J.out.below (bl_trans HT.out HB9.out))) (jcells_one _) (by unfold maxLen; omega) (by omega) hw9 ?_; intro v3 w10 hown3 hgrow3 _; have HO3 := Lib.hid (show OwnJ w10 w7.heap.size v3 (putL ⟨ta, tm, ne⟩ js) from by unfold OwnJ; rw [HPLEN.out, HPUT.out, show js.take 0 ++ (⟨ta, tm, ne⟩ : Jb) :: js.drop 0 = (js.take 0 ++ [⟨ta, tm, ne⟩]) ++ js.drop 0 by simp, List.flatMap_append]; rw [show 1 + m = m + 1 by omega] at hown3; exact hown3); have HB10 := Lib.hid (HB9.out.grown hgrow3 hw9 (fun k e => (World.ownsRow.lt HO2.out k e).1)); obtain ⟨g5, c5, hv3⟩ := HO3.out.some_ (by rw [HPLEN.out]; omega); rw [HPLEN.out] at hv3; subst hv3; clear hown3 hgrow3))
        have HT10 := Lib.hid (bl_trans HT.out HB10.out)
        have hrd := HO3.out.reads.2
        have HRD := Lib.hid hrd
        clear hrd
        cases hjb : jobsB ts (putL ⟨ta, tm, ne⟩ js)
        · have HJB := Lib.hid hjb
          obtain rfl : b = false := by rw [← HR.out]; unfold putB; rw [hjb]; simp
          have hpv : putV ts js ⟨ta, tm, ne⟩ = [] := by unfold putV; rw [HR.out]; rfl
          have HPV := Lib.hid hpv
          clear hjb hpv
          go_wp2_with fail
          refine (sJobs_is _ A n c ts ((H.out.below HT10.out).more HT10.out.size) hn _ (m + 1) c5 (putL ⟨ta, tm, ne⟩ js) HRD.out false HJB.out).mono ?_
          rintro e w11 ⟨rfl, hb⟩
          have HT11 := Lib.hid (bl_trans HT10.out hb)
          have hs11 := HT11.out.size
          clear hb
          go_wp2
          refine bodyPost_ret (v := .tuple #[.slice (some ⟨w11.heap.size, 0, none⟩) 0 0, .bool false]) (by simp [results, Tryz.results127, go_sem]) rfl (by rw [HPV.out]; exact ⟨w11.heap.size, 0, rfl, (OwnJ.empty w11).less hs11, bl_alloc HT11.out _⟩)
        · have HJB := Lib.hid hjb
          obtain rfl : b = true := by rw [← HR.out]; unfold putB; rw [hjb, HJ1.out]; rfl
          have hpv : putV ts js ⟨ta, tm, ne⟩ = putL ⟨ta, tm, ne⟩ js := by unfold putV; rw [HR.out]; rfl
          have HPV := Lib.hid hpv
          clear hjb hpv
          go_wp2_with fail
          refine (sJobs_is _ A n c ts ((H.out.below HT10.out).more HT10.out.size) hn _ (m + 1) c5 (putL ⟨ta, tm, ne⟩ js) HRD.out true HJB.out).mono ?_
          rintro e w11 ⟨rfl, hb⟩
          have HT11 := Lib.hid (bl_trans HT10.out hb)
          have HO11 := Lib.hid ((HO3.out.below hb).less hw7)
          clear hb
          go_wp2
          refine bodyPost_ret (v := .tuple #[.slice (some ⟨g5, 0, none⟩) (putL ⟨ta, tm, ne⟩ js).length c5, .bool true]) (by simp [results, Tryz.results127, go_sem, HPLEN.out]) rfl (by rw [HPV.out]; exact ⟨g5, c5, rfl, by have hh := HO11.out; rw [← HPLEN.out] at hh; exact hh, HT11.out⟩)
    obtain ⟨r, hr⟩ : ∃ r, q = r + 1 := ⟨q - 1, by omega⟩
    obtain ⟨pj, hpj⟩ : ∃ j, js[r]? = some j := ⟨js[r]'(by rw [HM.out]; omega), List.getElem?_eq_getElem _⟩
    obtain ⟨hbj, p0, p1, p2⟩ := (J.out.below HB.out).get hpj
    have hbj4 : bj < w4.heap.size := by omega
    have HPJ := Lib.hid hpj
    have HQR := Lib.hid hr
    have q0 : (0 : Int) < (q : Int) := by omega
    have q00 : 0 < q := by omega
    have r0 : (0 : Int) ≤ (r : Int) := by omega
    have r1 : (r : Int) < (m : Int) := by omega
    have r2 : IntKind.i64.wrap ((q : Int) - 1) = (r : Int) := by rw [IntWalk.i64_in _ (by omega)]; omega
    clear hpj hr
    obtain ⟨pa, pm, pe⟩ := pj
    dsimp only at p0 p1 p2
    have x0 := BJ.out.cell 0
    have x1 := BJ.out.cell 1
    have x2 := BJ.out.cell 2
    have HC := Lib.hid (And.intro x0 (And.intro x1 (And.intro x2 (And.intro p0 (And.intro p1 p2)))))
    clear x0 x1 x2 p0 p1 p2
    cases hbf : befB ⟨ta, tm, ne⟩ ⟨pa, pm, pe⟩
    · have HBF := Lib.hid hbf
      have HP := Lib.hid (show putAt ⟨ta, tm, ne⟩ js = q from putAt_is (by rw [HM.out]; exact hq) HD.out (fun i hi a ha => by
        have hir : i = r := by have := HQR.out; omega
        rw [hir, HPJ.out] at ha
        rw [← Option.some.inj ha]
        exact HBF.out))
      clear hbf HD
      go_wp2_with fail
      refine wp_region_held_drew (S := (fun W => W.cell? ⟨w.heap.size, 0, none⟩ = some (.int .i64 ta) ∧ W.cell? ⟨w.heap.size, 1, none⟩ = some (.int .i64 tm) ∧ W.cell? ⟨w.heap.size, 2, none⟩ = some (.int .i64 ne) ∧ W.cell? ⟨bj, oj + r * 3, none⟩ = some (.int .i64 pa) ∧ W.cell? ⟨bj, oj + r * 3 + 1, none⟩ = some (.int .i64 pm) ∧ W.cell? ⟨bj, oj + r * 3 + 2, none⟩ = some (.int .i64 pe))) (by kernel_rfl) (by exact HC.out) (fun hHeld0 => ?_)
      refine wpAnyH_take (i := 0) (oi := { dst := some 17, op := Go.Op.move (Go.Operand.tmp 8), type := 3, pos := "l6_jobs.go:158", after := #[], guard := none }) (v := ?vu2x0) rfl (by kernel_rfl) (by kernel_rfl) (by kernel_rfl) (fun _ _ _ h => h) (Or.inl ⟨by rfl, ?hyu2x0⟩) hHeld0 ?restu2x0
      case hyu2x0 => first | (intro w hSw; (try dsimp only at hSw); go_simp; done) | (intro w hSw; (try dsimp only at hSw); go_simp; with_reducible rfl)
      (try simp only [Act.put, List.setIfInBounds_toArray, List.set_cons_zero, List.set_cons_succ])
      refine wpAnyH_take (i := 1) (oi := { dst := some 18, op := Go.Op.binOp Go.BinOp.gtr 3 (Go.Operand.tmp 17) (Go.Operand.const (Go.Value.int Go.IntKind.i64 0)) 3, type := 4, pos := "l6_jobs.go:158", after := #[{ on := 0, ground := Go.Ground.data }], guard := none }) (v := ?vu2x1) rfl (by kernel_rfl) (by kernel_rfl) (by kernel_rfl) (fun _ _ _ h => h) (Or.inl ⟨by rfl, ?hyu2x1⟩) hHeld0 ?restu2x1
      case hyu2x1 => first | (intro w hSw; (try dsimp only at hSw); go_simp; done) | (intro w hSw; (try dsimp only at hSw); go_simp; with_reducible rfl)
      (try simp only [Act.put, List.setIfInBounds_toArray, List.set_cons_zero, List.set_cons_succ])
      refine wpAnyH_take (i := 2) (oi := { dst := some 19, op := Go.Op.move (Go.Operand.tmp 18), type := 4, pos := "l6_jobs.go:158", after := #[{ on := 1, ground := Go.Ground.data }], guard := none }) (v := ?vu2x2) rfl (by kernel_rfl) (by kernel_rfl) (by kernel_rfl) (fun _ _ _ h => h) (Or.inl ⟨by rfl, ?hyu2x2⟩) hHeld0 ?restu2x2
      case hyu2x2 => first | (intro w hSw; (try dsimp only at hSw); go_simp; done) | (intro w hSw; (try dsimp only at hSw); go_simp; with_reducible rfl)
      (try simp only [Act.put, List.setIfInBounds_toArray, List.set_cons_zero, List.set_cons_succ])
      refine wpAnyH_take (i := 3) (oi := { dst := some 20, op := Go.Op.load 46 (Go.Operand.tmp 5), type := 46, pos := "l6_jobs.go:158", after := #[{ on := 2, ground := Go.Ground.guard }], guard := some (2, true) }) (v := ?vu2x3) rfl (by kernel_rfl) (by kernel_rfl) (by kernel_rfl) (fun _ _ _ h => h) (Or.inl ⟨by rfl, ?hyu2x3⟩) hHeld0 ?restu2x3
      case hyu2x3 => first | (intro w hSw; (try dsimp only at hSw); go_simp; done) | (intro w hSw; (try dsimp only at hSw); go_simp; with_reducible rfl)
      (try simp only [Act.put, List.setIfInBounds_toArray, List.set_cons_zero, List.set_cons_succ])
      refine wpAnyH_take (i := 4) (oi := { dst := some 21, op := Go.Op.move (Go.Operand.tmp 1), type := 24, pos := "l6_jobs.go:158", after := #[{ on := 2, ground := Go.Ground.guard }], guard := some (2, true) }) (v := ?vu2x4) rfl (by kernel_rfl) (by kernel_rfl) (by kernel_rfl) (fun _ _ _ h => h) (Or.inl ⟨by rfl, ?hyu2x4⟩) hHeld0 ?restu2x4
      case hyu2x4 => first | (intro w hSw; (try dsimp only at hSw); go_simp; done) | (intro w hSw; (try dsimp only at hSw); go_simp; with_reducible rfl)
      (try simp only [Act.put, List.setIfInBounds_toArray, List.set_cons_zero, List.set_cons_succ])
      refine wpAnyH_take (i := 5) (oi := { dst := some 22, op := Go.Op.move (Go.Operand.tmp 8), type := 3, pos := "l6_jobs.go:158", after := #[{ on := 2, ground := Go.Ground.guard }], guard := some (2, true) }) (v := ?vu2x5) rfl (by kernel_rfl) (by kernel_rfl) (by kernel_rfl) (fun _ _ _ h => h) (Or.inl ⟨by rfl, ?hyu2x5⟩) hHeld0 ?restu2x5
      case hyu2x5 => first | (intro w hSw; (try dsimp only at hSw); go_simp; done) | (intro w hSw; (try dsimp only at hSw); go_simp; with_reducible rfl)
      (try simp only [Act.put, List.setIfInBounds_toArray, List.set_cons_zero, List.set_cons_succ])
      refine wpAnyH_take (i := 6) (oi := { dst := some 23, op := Go.Op.binOp Go.BinOp.sub 3 (Go.Operand.tmp 22) (Go.Operand.const (Go.Value.int Go.IntKind.i64 1)) 3, type := 3, pos := "l6_jobs.go:158", after := #[{ on := 5, ground := Go.Ground.data }, { on := 2, ground := Go.Ground.guard }], guard := some (2, true) }) (v := ?vu2x6) rfl (by kernel_rfl) (by kernel_rfl) (by kernel_rfl) (fun _ _ _ h => h) (Or.inl ⟨by rfl, ?hyu2x6⟩) hHeld0 ?restu2x6
      case hyu2x6 => first | (intro w hSw; (try dsimp only at hSw); go_simp; done) | (intro w hSw; (try dsimp only at hSw); go_simp; with_reducible rfl)
      (try simp only [Act.put, List.setIfInBounds_toArray, List.set_cons_zero, List.set_cons_succ])
      refine wpAnyH_take (i := 7) (oi := { dst := some 24, op := Go.Op.indexAddr 24 (Go.Operand.tmp 21) (Go.Operand.tmp 23), type := 0, pos := "l6_jobs.go:158", after := #[{ on := 4, ground := Go.Ground.data }, { on := 6, ground := Go.Ground.data }, { on := 2, ground := Go.Ground.guard }], guard := some (2, true) }) (v := ?vu2x7) rfl (by kernel_rfl) (by kernel_rfl) (by kernel_rfl) (fun _ _ _ h => h) (Or.inl ⟨by rfl, ?hyu2x7⟩) hHeld0 ?restu2x7
      case hyu2x7 => first | (intro w hSw; (try dsimp only at hSw); go_simp; done) | (intro w hSw; (try dsimp only at hSw); go_simp; with_reducible rfl)
      (try simp only [Act.put, List.setIfInBounds_toArray, List.set_cons_zero, List.set_cons_succ])
      refine wpAnyH_take (i := 8) (oi := { dst := some 25, op := Go.Op.load 46 (Go.Operand.tmp 24), type := 46, pos := "l6_jobs.go:158", after := #[{ on := 7, ground := Go.Ground.data }, { on := 2, ground := Go.Ground.guard }], guard := some (2, true) }) (v := ?vu2x8) rfl (by kernel_rfl) (by kernel_rfl) (by kernel_rfl) (fun _ _ _ h => h) (Or.inl ⟨by rfl, ?hyu2x8⟩) hHeld0 ?restu2x8
      case hyu2x8 => first | (intro w hSw; (try dsimp only at hSw); go_simp; done) | (intro w hSw; (try dsimp only at hSw); go_simp; with_reducible rfl)
      (try simp only [Act.put, List.setIfInBounds_toArray, List.set_cons_zero, List.set_cons_succ])
      refine wpAnyH_ready (rs := [9]) (by kernel_rfl) (by simp) ?_
      refine AllReadyH.cons (o := { dst := some 26, op := Go.Op.call { callee := Go.Callee.value (Go.Operand.func 101), args := #[Go.Operand.tmp 20, Go.Operand.tmp 25], argTypes := #[46, 46] }, type := 4, pos := "l6_jobs.go:158", after := #[{ on := 3, ground := Go.Ground.data }, { on := 8, ground := Go.Ground.data }, { on := 2, ground := Go.Ground.chain }, { on := 2, ground := Go.Ground.guard }], guard := some (2, true) }) rfl (fun K hK => ?_) AllReadyH.nil
      go_simp
      (go_at_call 101; refine (sBef_is _ ⟨ta, tm, ne⟩ ⟨pa, pm, pe⟩ false HBF.out).mono ?_; rintro e w6 ⟨rfl, hb⟩; have HB6 := Lib.hid (show Below w4.heap.size w4 w6 from bl_trans (by repeat (first | with_reducible exact Below.refl _ _ | with_reducible refine bl_drewN ?_ _ | with_reducible refine Below.drew ?_)) hb); clear hb)
      (try go_wp2_with fail)
      refine hK.out _ _ (by exact And.intro ((HB6.out.cell (p := ⟨w.heap.size, 0, none⟩) hgl).trans (HC.out.1)) (And.intro ((HB6.out.cell (p := ⟨w.heap.size, 1, none⟩) hgl).trans (HC.out.2.1)) (And.intro ((HB6.out.cell (p := ⟨w.heap.size, 2, none⟩) hgl).trans (HC.out.2.2.1)) (And.intro ((HB6.out.cell (p := ⟨bj, oj + r * 3, none⟩) hbj4).trans (HC.out.2.2.2.1)) (And.intro ((HB6.out.cell (p := ⟨bj, oj + r * 3 + 1, none⟩) hbj4).trans (HC.out.2.2.2.2.1)) (((HB6.out.cell (p := ⟨bj, oj + r * 3 + 2, none⟩) hbj4).trans (HC.out.2.2.2.2.2)))))))) (fun hHeld1 => ?_)
      clear hK K
      (try simp only [Act.put, List.setIfInBounds_toArray, List.set_cons_zero, List.set_cons_succ])
      refine wpAnyH_take (i := 10) (oi := { dst := some 27, op := Go.Op.pick (Go.Operand.tmp 19) (Go.Operand.tmp 26) (Go.Operand.const (Go.Value.bool false)), type := 4, pos := "l6_jobs.go:158", after := #[{ on := 2, ground := Go.Ground.data }, { on := 9, ground := Go.Ground.data }], guard := none }) (v := ?vu2x10) rfl (by kernel_rfl) (by kernel_rfl) (by kernel_rfl) (fun _ _ _ h => h) (Or.inl ⟨by rfl, ?hyu2x10⟩) hHeld1 ?restu2x10
      case hyu2x10 => first | (intro w hSw; (try dsimp only at hSw); go_simp; done) | (intro w hSw; (try dsimp only at hSw); go_simp; with_reducible rfl)
      (try simp only [Act.put, List.setIfInBounds_toArray, List.set_cons_zero, List.set_cons_succ])
      refine wpAnyH_done (by kernel_rfl) ?_ _
      have HT := Lib.hid (bl_trans HB.out HB6.out)
      have BT := Lib.hid (BJ.out.below HB6.out hgl)
      obtain ⟨w7, hw7⟩ : ∃ W, W = w6 := ⟨_, rfl⟩
      subst hw7
      clear HB6 HC q0 q00 r0 r1 r2 HBF HPJ hbj4 hbj HB BJ hgl
      have hpl : putL ⟨ta, tm, ne⟩ js = js.take q ++ ⟨ta, tm, ne⟩ :: js.drop q := by unfold putL; rw [HP.out]
      have hplen : (putL ⟨ta, tm, ne⟩ js).length = m + 1 := by rw [putL_len, HM.out]
      have htl : (js.take q).length = q := by rw [List.length_take, HM.out]; omega
      have hdl : (js.drop q).length = m - q := by rw [List.length_drop, HM.out]
      have HPUT := Lib.hid hpl
      have HPLEN := Lib.hid hplen
      have HTL := Lib.hid htl
      have HDL := Lib.hid hdl
      clear hpl hplen htl hdl HP
      have hx7 : w.heap.size < w7.heap.size := BT.out.lt
      have hw7 : w.heap.size ≤ w7.heap.size := HT.out.size
      have qc : (((q : Nat) : Int)) ≤ (c2 : Int) := by omega
      have qm : (((q : Nat) : Int)) ≤ (m : Int) := by omega
      have qz : (0 : Int) ≤ (((q : Nat) : Int)) := by omega
      
      by_cases hcq : c2 = q
      · have hcq2 : q = c2 := hcq.symm
        subst hcq2
        have HDN := Lib.hid (show js.drop q = [] from List.drop_of_length_le (by rw [HM.out]; omega))
        go_wp2_with (first
          | (at_builtin; refine wpList_append_own _ rfl (.tmp 30) (.tmp 33) 24 rfl w7.heap.size 46 i0 _ 3 24 Tryz.underlying24 hi hz0 hz1 hz2 rfl (by decide) _ 0 [] rfl (OwnJ.empty w7) ⟨bj, oj, none⟩ q q ((js.take q).flatMap Jb.cells) rfl (by rw [jcells_length, HTL.out]) (Jbs.cells3 (((J.out.below (bl_alloc HT.out _)).take (by omega : q ≤ m)))) (jcells_one _) (by unfold maxLen; omega) (by omega) (by simp) ?_; intro v1 w8 hown1 hgrow1 _; have HO1 := Lib.hid (show OwnJ w8 w7.heap.size v1 (js.take q) from by unfold OwnJ; rw [HTL.out]; simpa using hown1); have HB8 := Lib.hid (show Below w7.heap.size w7 w8 from (bl_alloc (Below.refl _ _) _).grown hgrow1 (by simp) (fun x e => (World.ownsRow.lt (OwnJ.empty w7) x e).1)); have BJ8 := Lib.hid (BT.out.below HB8.out hx7); have cj := BJ8.out.cell; obtain ⟨A3, c3, hv1⟩ := HO1.out.form; rw [HTL.out] at hv1; subst hv1; clear hown1 hgrow1)
          | (at_builtin; refine wpList_append_own _ rfl (.tmp 35) (.tmp 37) 24 rfl w7.heap.size 46 i0 _ 3 24 Tryz.underlying24 hi hz0 hz1 hz2 rfl (by decide) _ q ((js.take q).flatMap Jb.cells) rfl (by have hh := HO1.out.alloc (.cells #[.int .i64 ta, .int .i64 tm, .int .i64 ne] 46); unfold OwnJ at hh; rw [HTL.out] at hh; exact hh) ⟨w8.heap.size, 0, none⟩ 1 1 (Jb.cells ⟨ta, tm, ne⟩) rfl rfl (cell_new3 _ ⟨ta, tm, ne⟩ _) (by intro u hu; exact jcells_one [⟨ta, tm, ne⟩] u (by simpa using hu)) (by unfold maxLen; omega) (by omega) (by have := HB8.out.size; simp; omega) ?_; intro v2 w9 hown2 hgrow2 _; have HO2 := Lib.hid (show OwnJ w9 w7.heap.size v2 (js.take q ++ [⟨ta, tm, ne⟩]) from OwnJ.snoc (by rw [HTL.out]; exact hown2)); have HB9 := Lib.hid ((bl_alloc HB8.out _).grown hgrow2 (by have := HB8.out.size; simp; omega) (fun k e => (World.ownsRow.lt HO1.out k e).1)); have HL2 := Lib.hid (show (js.take q ++ [(⟨ta, tm, ne⟩ : Jb)]).length = q + 1 by rw [List.length_append, HTL.out]; rfl); obtain ⟨g4, c4, hv2⟩ := HO2.out.some_ (by rw [HL2.out]; omega); rw [HL2.out] at hv2; subst hv2; have hw9 : w7.heap.size ≤ w9.heap.size := HB9.out.size; clear hown2 hgrow2 cj)
          | (at_builtin; refine wpList_append_own _ rfl (.tmp 39) (.tmp 42) 24 rfl w7.heap.size 46 i0 _ 3 24 Tryz.underlying24 hi hz0 hz1 hz2 rfl (by decide) _ (q + 1) ((js.take q ++ [(⟨ta, tm, ne⟩ : Jb)]).flatMap Jb.cells) rfl (by have hh := HO2.out; unfold OwnJ at hh; rw [HL2.out] at hh; exact hh) ⟨bj, oj, none⟩ 0 0 ([] : List Value) rfl rfl (by intro j u hu; simp at hu) (by intro u hu; simp at hu) (by unfold maxLen; omega) (by omega) hw9 ?_; intro v3 w10 hown3 hgrow3 _; have HO3 := Lib.hid (show OwnJ w10 w7.heap.size v3 (putL ⟨ta, tm, ne⟩ js) from by rw [HPUT.out, HDN.out]; unfold OwnJ; rw [HL2.out]; simpa using hown3); have HB10 := Lib.hid (HB9.out.grown hgrow3 hw9 (fun k e => (World.ownsRow.lt HO2.out k e).1)); obtain ⟨g5, c5, hv3⟩ := HO3.out.some_ (by rw [HPLEN.out]; omega); rw [HPLEN.out] at hv3; subst hv3; clear hown3 hgrow3))
        have HT10 := Lib.hid (bl_trans HT.out HB10.out)
        have hrd := HO3.out.reads.2
        have HRD := Lib.hid hrd
        clear hrd
        cases hjb : jobsB ts (putL ⟨ta, tm, ne⟩ js)
        · have HJB := Lib.hid hjb
          obtain rfl : b = false := by rw [← HR.out]; unfold putB; rw [hjb]; simp
          have hpv : putV ts js ⟨ta, tm, ne⟩ = [] := by unfold putV; rw [HR.out]; rfl
          have HPV := Lib.hid hpv
          clear hjb hpv
          go_wp2_with fail
          refine (sJobs_is _ A n c ts ((H.out.below HT10.out).more HT10.out.size) hn _ (m + 1) c5 (putL ⟨ta, tm, ne⟩ js) HRD.out false HJB.out).mono ?_
          rintro e w11 ⟨rfl, hb⟩
          have HT11 := Lib.hid (bl_trans HT10.out hb)
          have hs11 := HT11.out.size
          clear hb
          go_wp2
          refine bodyPost_ret (v := .tuple #[.slice (some ⟨w11.heap.size, 0, none⟩) 0 0, .bool false]) (by simp [results, Tryz.results127, go_sem]) rfl (by rw [HPV.out]; exact ⟨w11.heap.size, 0, rfl, (OwnJ.empty w11).less hs11, bl_alloc HT11.out _⟩)
        · have HJB := Lib.hid hjb
          obtain rfl : b = true := by rw [← HR.out]; unfold putB; rw [hjb, HJ1.out]; rfl
          have hpv : putV ts js ⟨ta, tm, ne⟩ = putL ⟨ta, tm, ne⟩ js := by unfold putV; rw [HR.out]; rfl
          have HPV := Lib.hid hpv
          clear hjb hpv
          go_wp2_with fail
          refine (sJobs_is _ A n c ts ((H.out.below HT10.out).more HT10.out.size) hn _ (m + 1) c5 (putL ⟨ta, tm, ne⟩ js) HRD.out true HJB.out).mono ?_
          rintro e w11 ⟨rfl, hb⟩
          have HT11 := Lib.hid (bl_trans HT10.out hb)
          have HO11 := Lib.hid ((HO3.out.below hb).less hw7)
          clear hb
          go_wp2
          refine bodyPost_ret (v := .tuple #[.slice (some ⟨g5, 0, none⟩) (putL ⟨ta, tm, ne⟩ js).length c5, .bool true]) (by simp [results, Tryz.results127, go_sem, HPLEN.out]) rfl (by rw [HPV.out]; exact ⟨g5, c5, rfl, by have hh := HO11.out; rw [← HPLEN.out] at hh; exact hh, HT11.out⟩)
      · have k1 : ¬ ((q : Nat) : Int) = (c2 : Int) := by omega
        have k2 : (((q : Nat) : Int) == (c2 : Int)) = false := by rw [beq_eq_false_iff_ne]; exact k1
        have k3 : ¬ q = c2 := fun e => hcq e.symm
        go_wp2_with (first
          | (at_builtin; refine wpList_append_own _ rfl (.tmp 30) (.tmp 33) 24 rfl w7.heap.size 46 i0 _ 3 24 Tryz.underlying24 hi hz0 hz1 hz2 rfl (by decide) _ 0 [] rfl (OwnJ.empty w7) ⟨bj, oj, none⟩ q c2 ((js.take q).flatMap Jb.cells) rfl (by rw [jcells_length, HTL.out]) (Jbs.cells3 (((J.out.below (bl_alloc HT.out _)).take (by omega : q ≤ m)))) (jcells_one _) (by unfold maxLen; omega) (by omega) (by simp) ?_; intro v1 w8 hown1 hgrow1 _; have HO1 := Lib.hid (show OwnJ w8 w7.heap.size v1 (js.take q) from by unfold OwnJ; rw [HTL.out]; simpa using hown1); have HB8 := Lib.hid (show Below w7.heap.size w7 w8 from (bl_alloc (Below.refl _ _) _).grown hgrow1 (by simp) (fun x e => (World.ownsRow.lt (OwnJ.empty w7) x e).1)); have BJ8 := Lib.hid (BT.out.below HB8.out hx7); have cj := BJ8.out.cell; obtain ⟨A3, c3, hv1⟩ := HO1.out.form; rw [HTL.out] at hv1; subst hv1; clear hown1 hgrow1)
          | (at_builtin; refine wpList_append_own _ rfl (.tmp 35) (.tmp 37) 24 rfl w7.heap.size 46 i0 _ 3 24 Tryz.underlying24 hi hz0 hz1 hz2 rfl (by decide) _ q ((js.take q).flatMap Jb.cells) rfl (by have hh := HO1.out.alloc (.cells #[.int .i64 ta, .int .i64 tm, .int .i64 ne] 46); unfold OwnJ at hh; rw [HTL.out] at hh; exact hh) ⟨w8.heap.size, 0, none⟩ 1 1 (Jb.cells ⟨ta, tm, ne⟩) rfl rfl (cell_new3 _ ⟨ta, tm, ne⟩ _) (by intro u hu; exact jcells_one [⟨ta, tm, ne⟩] u (by simpa using hu)) (by unfold maxLen; omega) (by omega) (by have := HB8.out.size; simp; omega) ?_; intro v2 w9 hown2 hgrow2 _; have HO2 := Lib.hid (show OwnJ w9 w7.heap.size v2 (js.take q ++ [⟨ta, tm, ne⟩]) from OwnJ.snoc (by rw [HTL.out]; exact hown2)); have HB9 := Lib.hid ((bl_alloc HB8.out _).grown hgrow2 (by have := HB8.out.size; simp; omega) (fun k e => (World.ownsRow.lt HO1.out k e).1)); have HL2 := Lib.hid (show (js.take q ++ [(⟨ta, tm, ne⟩ : Jb)]).length = q + 1 by rw [List.length_append, HTL.out]; rfl); obtain ⟨g4, c4, hv2⟩ := HO2.out.some_ (by rw [HL2.out]; omega); rw [HL2.out] at hv2; subst hv2; have hw9 : w7.heap.size ≤ w9.heap.size := HB9.out.size; clear hown2 hgrow2 cj)
          | (at_builtin; refine wpList_append_own _ rfl (.tmp 39) (.tmp 42) 24 rfl w7.heap.size 46 i0 _ 3 24 Tryz.underlying24 hi hz0 hz1 hz2 rfl (by decide) _ (q + 1) ((js.take q ++ [(⟨ta, tm, ne⟩ : Jb)]).flatMap Jb.cells) rfl (by have hh := HO2.out; unfold OwnJ at hh; rw [HL2.out] at hh; exact hh) ⟨bj, oj + q * 3, none⟩ (m - q) (c2 - q) ((js.drop q).flatMap Jb.cells) rfl (by rw [jcells_length, HDL.out]) (Jbs.cells3 (Jbs.drop (k := q) (J.out.below (bl_trans HT.out HB9.out)) rfl)) (jcells_one _) (by unfold maxLen; omega) (by omega) hw9 ?_; intro v3 w10 hown3 hgrow3 _; have HO3 := Lib.hid (show OwnJ w10 w7.heap.size v3 (putL ⟨ta, tm, ne⟩ js) from by unfold OwnJ; rw [HPLEN.out, HPUT.out, show js.take q ++ (⟨ta, tm, ne⟩ : Jb) :: js.drop q = (js.take q ++ [⟨ta, tm, ne⟩]) ++ js.drop q by simp, List.flatMap_append]; rw [show q + 1 + (m - q) = m + 1 by omega] at hown3; exact hown3); have HB10 := Lib.hid (HB9.out.grown hgrow3 hw9 (fun k e => (World.ownsRow.lt HO2.out k e).1)); obtain ⟨g5, c5, hv3⟩ := HO3.out.some_ (by rw [HPLEN.out]; omega); rw [HPLEN.out] at hv3; subst hv3; clear hown3 hgrow3))
        have HT10 := Lib.hid (bl_trans HT.out HB10.out)
        have hrd := HO3.out.reads.2
        have HRD := Lib.hid hrd
        clear hrd
        cases hjb : jobsB ts (putL ⟨ta, tm, ne⟩ js)
        · have HJB := Lib.hid hjb
          obtain rfl : b = false := by rw [← HR.out]; unfold putB; rw [hjb]; simp
          have hpv : putV ts js ⟨ta, tm, ne⟩ = [] := by unfold putV; rw [HR.out]; rfl
          have HPV := Lib.hid hpv
          clear hjb hpv
          go_wp2_with fail
          refine (sJobs_is _ A n c ts ((H.out.below HT10.out).more HT10.out.size) hn _ (m + 1) c5 (putL ⟨ta, tm, ne⟩ js) HRD.out false HJB.out).mono ?_
          rintro e w11 ⟨rfl, hb⟩
          have HT11 := Lib.hid (bl_trans HT10.out hb)
          have hs11 := HT11.out.size
          clear hb
          go_wp2
          refine bodyPost_ret (v := .tuple #[.slice (some ⟨w11.heap.size, 0, none⟩) 0 0, .bool false]) (by simp [results, Tryz.results127, go_sem]) rfl (by rw [HPV.out]; exact ⟨w11.heap.size, 0, rfl, (OwnJ.empty w11).less hs11, bl_alloc HT11.out _⟩)
        · have HJB := Lib.hid hjb
          obtain rfl : b = true := by rw [← HR.out]; unfold putB; rw [hjb, HJ1.out]; rfl
          have hpv : putV ts js ⟨ta, tm, ne⟩ = putL ⟨ta, tm, ne⟩ js := by unfold putV; rw [HR.out]; rfl
          have HPV := Lib.hid hpv
          clear hjb hpv
          go_wp2_with fail
          refine (sJobs_is _ A n c ts ((H.out.below HT10.out).more HT10.out.size) hn _ (m + 1) c5 (putL ⟨ta, tm, ne⟩ js) HRD.out true HJB.out).mono ?_
          rintro e w11 ⟨rfl, hb⟩
          have HT11 := Lib.hid (bl_trans HT10.out hb)
          have HO11 := Lib.hid ((HO3.out.below hb).less hw7)
          clear hb
          go_wp2
          refine bodyPost_ret (v := .tuple #[.slice (some ⟨g5, 0, none⟩) (putL ⟨ta, tm, ne⟩ js).length c5, .bool true]) (by simp [results, Tryz.results127, go_sem, HPLEN.out]) rfl (by rw [HPV.out]; exact ⟨g5, c5, rfl, by have hh := HO11.out; rw [← HPLEN.out] at hh; exact hh, HT11.out⟩)
    · have HBF := Lib.hid hbf
      have HD2 := Lib.hid (show ∀ a ∈ js.drop r, befB ⟨ta, tm, ne⟩ a = true by
        intro a ha
        obtain ⟨hk, hk2⟩ := List.getElem?_eq_some_iff.1 HPJ.out
        rw [List.drop_eq_getElem_cons hk, hk2] at ha
        rcases List.mem_cons.1 ha with e | e
        · rw [e]; exact HBF.out
        · exact HD.out a (by rw [HQR.out]; exact e))
      clear hbf HD
      go_wp2_with fail
      refine wp_region_held_drew (S := (fun W => W.cell? ⟨w.heap.size, 0, none⟩ = some (.int .i64 ta) ∧ W.cell? ⟨w.heap.size, 1, none⟩ = some (.int .i64 tm) ∧ W.cell? ⟨w.heap.size, 2, none⟩ = some (.int .i64 ne) ∧ W.cell? ⟨bj, oj + r * 3, none⟩ = some (.int .i64 pa) ∧ W.cell? ⟨bj, oj + r * 3 + 1, none⟩ = some (.int .i64 pm) ∧ W.cell? ⟨bj, oj + r * 3 + 2, none⟩ = some (.int .i64 pe))) (by kernel_rfl) (by exact HC.out) (fun hHeld0 => ?_)
      refine wpAnyH_take (i := 0) (oi := { dst := some 17, op := Go.Op.move (Go.Operand.tmp 8), type := 3, pos := "l6_jobs.go:158", after := #[], guard := none }) (v := ?vu3x0) rfl (by kernel_rfl) (by kernel_rfl) (by kernel_rfl) (fun _ _ _ h => h) (Or.inl ⟨by rfl, ?hyu3x0⟩) hHeld0 ?restu3x0
      case hyu3x0 => first | (intro w hSw; (try dsimp only at hSw); go_simp; done) | (intro w hSw; (try dsimp only at hSw); go_simp; with_reducible rfl)
      (try simp only [Act.put, List.setIfInBounds_toArray, List.set_cons_zero, List.set_cons_succ])
      refine wpAnyH_take (i := 1) (oi := { dst := some 18, op := Go.Op.binOp Go.BinOp.gtr 3 (Go.Operand.tmp 17) (Go.Operand.const (Go.Value.int Go.IntKind.i64 0)) 3, type := 4, pos := "l6_jobs.go:158", after := #[{ on := 0, ground := Go.Ground.data }], guard := none }) (v := ?vu3x1) rfl (by kernel_rfl) (by kernel_rfl) (by kernel_rfl) (fun _ _ _ h => h) (Or.inl ⟨by rfl, ?hyu3x1⟩) hHeld0 ?restu3x1
      case hyu3x1 => first | (intro w hSw; (try dsimp only at hSw); go_simp; done) | (intro w hSw; (try dsimp only at hSw); go_simp; with_reducible rfl)
      (try simp only [Act.put, List.setIfInBounds_toArray, List.set_cons_zero, List.set_cons_succ])
      refine wpAnyH_take (i := 2) (oi := { dst := some 19, op := Go.Op.move (Go.Operand.tmp 18), type := 4, pos := "l6_jobs.go:158", after := #[{ on := 1, ground := Go.Ground.data }], guard := none }) (v := ?vu3x2) rfl (by kernel_rfl) (by kernel_rfl) (by kernel_rfl) (fun _ _ _ h => h) (Or.inl ⟨by rfl, ?hyu3x2⟩) hHeld0 ?restu3x2
      case hyu3x2 => first | (intro w hSw; (try dsimp only at hSw); go_simp; done) | (intro w hSw; (try dsimp only at hSw); go_simp; with_reducible rfl)
      (try simp only [Act.put, List.setIfInBounds_toArray, List.set_cons_zero, List.set_cons_succ])
      refine wpAnyH_take (i := 3) (oi := { dst := some 20, op := Go.Op.load 46 (Go.Operand.tmp 5), type := 46, pos := "l6_jobs.go:158", after := #[{ on := 2, ground := Go.Ground.guard }], guard := some (2, true) }) (v := ?vu3x3) rfl (by kernel_rfl) (by kernel_rfl) (by kernel_rfl) (fun _ _ _ h => h) (Or.inl ⟨by rfl, ?hyu3x3⟩) hHeld0 ?restu3x3
      case hyu3x3 => first | (intro w hSw; (try dsimp only at hSw); go_simp; done) | (intro w hSw; (try dsimp only at hSw); go_simp; with_reducible rfl)
      (try simp only [Act.put, List.setIfInBounds_toArray, List.set_cons_zero, List.set_cons_succ])
      refine wpAnyH_take (i := 4) (oi := { dst := some 21, op := Go.Op.move (Go.Operand.tmp 1), type := 24, pos := "l6_jobs.go:158", after := #[{ on := 2, ground := Go.Ground.guard }], guard := some (2, true) }) (v := ?vu3x4) rfl (by kernel_rfl) (by kernel_rfl) (by kernel_rfl) (fun _ _ _ h => h) (Or.inl ⟨by rfl, ?hyu3x4⟩) hHeld0 ?restu3x4
      case hyu3x4 => first | (intro w hSw; (try dsimp only at hSw); go_simp; done) | (intro w hSw; (try dsimp only at hSw); go_simp; with_reducible rfl)
      (try simp only [Act.put, List.setIfInBounds_toArray, List.set_cons_zero, List.set_cons_succ])
      refine wpAnyH_take (i := 5) (oi := { dst := some 22, op := Go.Op.move (Go.Operand.tmp 8), type := 3, pos := "l6_jobs.go:158", after := #[{ on := 2, ground := Go.Ground.guard }], guard := some (2, true) }) (v := ?vu3x5) rfl (by kernel_rfl) (by kernel_rfl) (by kernel_rfl) (fun _ _ _ h => h) (Or.inl ⟨by rfl, ?hyu3x5⟩) hHeld0 ?restu3x5
      case hyu3x5 => first | (intro w hSw; (try dsimp only at hSw); go_simp; done) | (intro w hSw; (try dsimp only at hSw); go_simp; with_reducible rfl)
      (try simp only [Act.put, List.setIfInBounds_toArray, List.set_cons_zero, List.set_cons_succ])
      refine wpAnyH_take (i := 6) (oi := { dst := some 23, op := Go.Op.binOp Go.BinOp.sub 3 (Go.Operand.tmp 22) (Go.Operand.const (Go.Value.int Go.IntKind.i64 1)) 3, type := 3, pos := "l6_jobs.go:158", after := #[{ on := 5, ground := Go.Ground.data }, { on := 2, ground := Go.Ground.guard }], guard := some (2, true) }) (v := ?vu3x6) rfl (by kernel_rfl) (by kernel_rfl) (by kernel_rfl) (fun _ _ _ h => h) (Or.inl ⟨by rfl, ?hyu3x6⟩) hHeld0 ?restu3x6
      case hyu3x6 => first | (intro w hSw; (try dsimp only at hSw); go_simp; done) | (intro w hSw; (try dsimp only at hSw); go_simp; with_reducible rfl)
      (try simp only [Act.put, List.setIfInBounds_toArray, List.set_cons_zero, List.set_cons_succ])
      refine wpAnyH_take (i := 7) (oi := { dst := some 24, op := Go.Op.indexAddr 24 (Go.Operand.tmp 21) (Go.Operand.tmp 23), type := 0, pos := "l6_jobs.go:158", after := #[{ on := 4, ground := Go.Ground.data }, { on := 6, ground := Go.Ground.data }, { on := 2, ground := Go.Ground.guard }], guard := some (2, true) }) (v := ?vu3x7) rfl (by kernel_rfl) (by kernel_rfl) (by kernel_rfl) (fun _ _ _ h => h) (Or.inl ⟨by rfl, ?hyu3x7⟩) hHeld0 ?restu3x7
      case hyu3x7 => first | (intro w hSw; (try dsimp only at hSw); go_simp; done) | (intro w hSw; (try dsimp only at hSw); go_simp; with_reducible rfl)
      (try simp only [Act.put, List.setIfInBounds_toArray, List.set_cons_zero, List.set_cons_succ])
      refine wpAnyH_take (i := 8) (oi := { dst := some 25, op := Go.Op.load 46 (Go.Operand.tmp 24), type := 46, pos := "l6_jobs.go:158", after := #[{ on := 7, ground := Go.Ground.data }, { on := 2, ground := Go.Ground.guard }], guard := some (2, true) }) (v := ?vu3x8) rfl (by kernel_rfl) (by kernel_rfl) (by kernel_rfl) (fun _ _ _ h => h) (Or.inl ⟨by rfl, ?hyu3x8⟩) hHeld0 ?restu3x8
      case hyu3x8 => first | (intro w hSw; (try dsimp only at hSw); go_simp; done) | (intro w hSw; (try dsimp only at hSw); go_simp; with_reducible rfl)
      (try simp only [Act.put, List.setIfInBounds_toArray, List.set_cons_zero, List.set_cons_succ])
      refine wpAnyH_ready (rs := [9]) (by kernel_rfl) (by simp) ?_
      refine AllReadyH.cons (o := { dst := some 26, op := Go.Op.call { callee := Go.Callee.value (Go.Operand.func 101), args := #[Go.Operand.tmp 20, Go.Operand.tmp 25], argTypes := #[46, 46] }, type := 4, pos := "l6_jobs.go:158", after := #[{ on := 3, ground := Go.Ground.data }, { on := 8, ground := Go.Ground.data }, { on := 2, ground := Go.Ground.chain }, { on := 2, ground := Go.Ground.guard }], guard := some (2, true) }) rfl (fun K hK => ?_) AllReadyH.nil
      go_simp
      (go_at_call 101; refine (sBef_is _ ⟨ta, tm, ne⟩ ⟨pa, pm, pe⟩ true HBF.out).mono ?_; rintro e w6 ⟨rfl, hb⟩; have HB6 := Lib.hid (show Below w4.heap.size w4 w6 from bl_trans (by repeat (first | with_reducible exact Below.refl _ _ | with_reducible refine bl_drewN ?_ _ | with_reducible refine Below.drew ?_)) hb); clear hb)
      (try go_wp2_with fail)
      refine hK.out _ _ (by exact And.intro ((HB6.out.cell (p := ⟨w.heap.size, 0, none⟩) hgl).trans (HC.out.1)) (And.intro ((HB6.out.cell (p := ⟨w.heap.size, 1, none⟩) hgl).trans (HC.out.2.1)) (And.intro ((HB6.out.cell (p := ⟨w.heap.size, 2, none⟩) hgl).trans (HC.out.2.2.1)) (And.intro ((HB6.out.cell (p := ⟨bj, oj + r * 3, none⟩) hbj4).trans (HC.out.2.2.2.1)) (And.intro ((HB6.out.cell (p := ⟨bj, oj + r * 3 + 1, none⟩) hbj4).trans (HC.out.2.2.2.2.1)) (((HB6.out.cell (p := ⟨bj, oj + r * 3 + 2, none⟩) hbj4).trans (HC.out.2.2.2.2.2)))))))) (fun hHeld1 => ?_)
      clear hK K
      (try simp only [Act.put, List.setIfInBounds_toArray, List.set_cons_zero, List.set_cons_succ])
      refine wpAnyH_take (i := 10) (oi := { dst := some 27, op := Go.Op.pick (Go.Operand.tmp 19) (Go.Operand.tmp 26) (Go.Operand.const (Go.Value.bool false)), type := 4, pos := "l6_jobs.go:158", after := #[{ on := 2, ground := Go.Ground.data }, { on := 9, ground := Go.Ground.data }], guard := none }) (v := ?vu3x10) rfl (by kernel_rfl) (by kernel_rfl) (by kernel_rfl) (fun _ _ _ h => h) (Or.inl ⟨by rfl, ?hyu3x10⟩) hHeld1 ?restu3x10
      case hyu3x10 => first | (intro w hSw; (try dsimp only at hSw); go_simp; done) | (intro w hSw; (try dsimp only at hSw); go_simp; with_reducible rfl)
      (try simp only [Act.put, List.setIfInBounds_toArray, List.set_cons_zero, List.set_cons_succ])
      refine wpAnyH_done (by kernel_rfl) ?_ _
      have BJ6 := Lib.hid (BJ.out.below HB6.out hgl)
      have HW6 := Lib.hid (bl_trans HB.out HB6.out)
      go_wp2
      go_roundw
      case rel => exact ⟨r, by omega, by go_num, HD2, Lib.hid (by repeat (first | exact BJ6.out | refine Blk.drewN ?_ _ | refine Blk.drew ?_)), Lib.hid (by repeat (first | exact HW6.out | refine bl_drewN ?_ _ | refine Below.drew ?_))⟩
      case measure => have hqr := HQR.out; simp [intOf]; omega
end
section
open Go.RowKit
set_option linter.unusedVariables false
theorem row_app (h : Bool) (n : Nat) : ∀ (xs ys : List Tk) (k : Nat), rowJ h n k (xs ++ ys) = rowJ h n k xs ++ rowJ h n (k + xs.length) ys
  | [], ys, k => by simp [rowJ]
  | t :: xs, ys, k => by
    rw [List.cons_append, rowJ, rowJ, row_app h n xs ys (k + 1), List.append_assoc]
    congr 3
    simp; omega
theorem row_take {h : Bool} {n q : Nat} {ts : List Tk} {t : Tk} (ht : ts[q]? = some t) : rowJ h n 0 (ts.take (q + 1)) = rowJ h n 0 (ts.take q) ++ if (n : Int) % t.ev = 0 then [⟨(q : Int), (n : Int), needOf h t⟩] else [] := by
  have hq := (List.getElem?_eq_some_iff.1 ht).1
  rw [List.take_add_one, ht, Option.toList_some, row_app]
  congr 1
  rw [List.length_take, Nat.min_eq_left (Nat.le_of_lt hq), Nat.zero_add]
  simp [rowJ]
theorem worst_more {h : Bool} {ts : List Tk} {k q U : Nat} (hk : k < U) : (worstL h ts k).length + (rowJ h k 0 (ts.take q)).length ≤ (worstL h ts U).length := by
  obtain ⟨r, hr⟩ := worst_pre (h := h) (ts := ts) (show k + 1 ≤ U by omega)
  rw [hr, worstL]
  have : rowJ h k 0 ts = rowJ h k 0 (ts.take q) ++ rowJ h k (0 + (ts.take q).length) (ts.drop q) := by rw [← row_app, List.take_append_drop]
  rw [this]
  simp
theorem cell_new3_at (w : World) (t : Jb) (ty : TypeId) (g : Nat) (hg : g = w.heap.size) : ∀ j u, t.cells[j]? = some u → (w.alloc (.cells #[.int .i64 t.ta, .int .i64 t.tm, .int .i64 t.ne] ty)).cell? ((⟨g, 0, none⟩ : Addr).add j) = some u := by
  subst hg; exact cell_new3 w t ty
set_option maxRecDepth 100000 in
set_option maxHeartbeats 4000000 in
theorem sWorst_true (w : World) (A : Option Addr) (n c : Nat) (ts : List Tk) (h : Tks w w.heap.size A n ts) (hn : n ≤ 1048576) (u : Int) (b : Bool) (hb : worstB ts u true = b) :
    Calls Tryz.prog 126 #[.slice A n c, .int .i64 u, .bool true] w (JsPut (worstV ts u true) b w) := by
  obtain ⟨i0, hi0, hz0, hz1, hz2⟩ := info_parts info_job
  have H := Lib.hid h
  have HL := Lib.hid h.len
  clear h
  have HR := Lib.hid hb
  cases hs : setB ts
  · obtain rfl : b = false := by rw [← hb]; unfold worstB; rw [hs]; rfl
    have hv : worstV ts u true = [] := by unfold worstV; rw [hb]; rfl
    rw [hv]
    have HS := Lib.hid hs
    clear hb hs hv
    go_enter Tryz.func126, Tryz.ntmps126
    go_wp2_with fail
    refine (sSetValid_any _ A n c ts ((H.out.below (bl_alloc (Below.refl w.heap.size w) _)).more (by simp)) hn).mono ?_
    rintro e w1 ⟨rfl, hb⟩
    rw [HS.out]
    have HB1 := Lib.hid (show Below w.heap.size w w1 from bl_trans (bl_alloc (Below.refl w.heap.size w) _) hb)
    have HO := Lib.hid ((OwnJ.empty w).below hb)
    clear hb
    go_wp2
    refine bodyPost_ret (v := .tuple #[.slice (some ⟨w.heap.size, 0, none⟩) 0 0, .bool false]) (by simp [results, Tryz.results126, go_sem]) rfl ⟨w.heap.size, 0, rfl, HO.out, HB1.out⟩
  have hn5 : n ≤ 5 := by have := setB_len hs; rw [HL.out] at this; exact this
  have HS := Lib.hid hs
  by_cases hu : 0 ≤ u ∧ u ≤ 200
  rotate_left
  · obtain rfl : b = false := by rw [← hb]; exact no_of fun hx => by unfold worstB at hx; simp at hx; omega
    have hv : worstV ts u true = [] := by unfold worstV; rw [hb]; rfl
    rw [hv]
    clear hb hs hv
    by_cases h1 : u < 0
    · have d1 : decide (u < 0) = true := decide_eq_true h1
      go_enter Tryz.func126, Tryz.ntmps126
      go_wp2_with fail
      refine (sSetValid_any _ A n c ts ((H.out.below (bl_alloc (Below.refl w.heap.size w) _)).more (by simp)) hn).mono ?_
      rintro e w1 ⟨rfl, hb⟩
      rw [HS.out]
      have HB1 := Lib.hid (show Below w.heap.size w w1 from bl_trans (bl_alloc (Below.refl w.heap.size w) _) hb)
      have HO := Lib.hid ((OwnJ.empty w).below hb)
      clear hb
      go_wp2
      refine bodyPost_ret (v := .tuple #[.slice (some ⟨w.heap.size, 0, none⟩) 0 0, .bool false]) (by simp [results, Tryz.results126, go_sem]) rfl ⟨w.heap.size, 0, rfl, HO.out, HB1.out⟩
    · have d1 : decide (u < 0) = false := decide_eq_false h1
      have h2 : 200 < u := by omega
      have d2 : decide (200 < u) = true := decide_eq_true h2
      go_enter Tryz.func126, Tryz.ntmps126
      go_wp2_with fail
      refine (sSetValid_any _ A n c ts ((H.out.below (bl_alloc (Below.refl w.heap.size w) _)).more (by simp)) hn).mono ?_
      rintro e w1 ⟨rfl, hb⟩
      rw [HS.out]
      have HB1 := Lib.hid (show Below w.heap.size w w1 from bl_trans (bl_alloc (Below.refl w.heap.size w) _) hb)
      have HO := Lib.hid ((OwnJ.empty w).below hb)
      clear hb
      go_wp2
      refine bodyPost_ret (v := .tuple #[.slice (some ⟨w.heap.size, 0, none⟩) 0 0, .bool false]) (by simp [results, Tryz.results126, go_sem]) rfl ⟨w.heap.size, 0, rfl, HO.out, HB1.out⟩
  obtain ⟨hu1, hu2⟩ := hu
  obtain ⟨U, rfl⟩ : ∃ U : Nat, u = (U : Int) := ⟨u.toNat, by omega⟩
  have hU : U ≤ 200 := by omega
  have hwb : worstB ts (U : Int) true = decide ((worstL true ts U).length ≤ 60) := by unfold worstB; rw [hs, decide_eq_true hu1, decide_eq_true hu2]; rfl
  have HWB := Lib.hid hwb
  have d1 : ¬ (U : Int) < 0 := by omega
  have d2 : ¬ (200 : Int) < (U : Int) := by omega
  clear hs hb hwb hu1 hu2
  go_enter Tryz.func126, Tryz.ntmps126
  go_wp2_with fail
  refine (sSetValid_any _ A n c ts ((H.out.below (bl_alloc (Below.refl w.heap.size w) _)).more (by simp)) hn).mono ?_
  rintro e w1 ⟨rfl, hb⟩
  rw [HS.out]
  have HB1 := Lib.hid (show Below w.heap.size w w1 from bl_trans (bl_alloc (Below.refl w.heap.size w) _) hb)
  have HO1 := Lib.hid ((OwnJ.empty w).below hb)
  clear hb
  go_wp2
  go_loopw [8, 9] (fun v i wr => ∃ k g cc : Nat, k ≤ U ∧ i = .int .i64 k ∧ v = .slice (some ⟨g, 0, none⟩) (worstL true ts k).length cc ∧ (worstL true ts k).length ≤ 60 ∧ Hid (OwnJ wr w.heap.size v (worstL true ts k)) ∧ Hid (Below w.heap.size w wr)) (fun _ i _ => U - (intOf i).toNat)
  case atStart => exact ⟨0, w.heap.size, 0, Nat.zero_le _, rfl, rfl, Nat.zero_le _, HO1, HB1⟩
  case round =>
    obtain ⟨k, g, cc, hk, rfl, rfl, h60, HO, HB⟩ := hrel
    by_cases hlt : k < U
    · have k2 : (k : Int) < (U : Int) := by omega
      obtain ⟨L0, hL0⟩ : ∃ L, L = worstL true ts k := ⟨_, rfl⟩
      have HL0 := Lib.hid hL0
      rw [← hL0] at HO h60 ⊢
      clear hL0
      obtain ⟨w5, hw5⟩ : ∃ W, W = wr := ⟨_, rfl⟩
      subst hw5
      go_wp2
      go_loopw [8, 10] (fun v i wr => ∃ q g cc : Nat, ∃ L : List Jb, q ≤ n ∧ i = .int .i64 q ∧ v = .slice (some ⟨g, 0, none⟩) L.length cc ∧ L.length ≤ 60 ∧ Hid (L = L0 ++ rowJ true k 0 (ts.take q)) ∧ Hid (OwnJ wr w.heap.size v L) ∧ Hid (Below w.heap.size w wr)) (fun _ i _ => n - (intOf i).toNat)
      case atStart => exact ⟨0, g, cc, L0, Nat.zero_le _, rfl, rfl, h60, Lib.hid (by simp [rowJ]), HO, HB⟩
      case round =>
        obtain ⟨q, g, cc, L, hq, rfl, rfl, hL60, HLL, HO, HB⟩ := hrel
        obtain ⟨wq, hwq⟩ : ∃ W, W = wr := ⟨_, rfl⟩
        subst hwq
        have hwqs : w.heap.size ≤ wq.heap.size := HB.out.size
        by_cases hqn : q < n
        · have q2 : (q : Int) < (n : Int) := by omega
          obtain ⟨t, ht⟩ : ∃ t, ts[q]? = some t := ⟨ts[q]'(by rw [HL.out]; exact hqn), List.getElem?_eq_getElem _⟩
          obtain ⟨bt, ot, rfl, hbt, c0, c1, c2, c3, c4⟩ := (H.out.below HB.out).at_ q t ht
          have hok : t.ok = true := by
            have := HS.out; unfold setB at this; simp at this
            exact this.2 t (List.mem_of_getElem? ht)
          have hbnd : 1 ≤ t.ev ∧ t.ev ≤ 20 := by unfold Tk.ok validB at hok; simp at hok; omega
          have HRT := Lib.hid (row_take (h := true) (n := k) ht)
          have hbt4 : bt < wq.heap.size := by omega
          have hne : bt ≠ wq.heap.size := by omega
          have z1 : ¬ t.ev = 0 := by omega
          have z2 : (t.ev == 0) = false := by simp; omega
          have hmod : Int.tmod (k : Int) t.ev = (k : Int) % t.ev := Int.tmod_eq_emod_of_nonneg (by omega)
          clear ht hok
          obtain ⟨lo, hi', du, ev, cr⟩ := t
          dsimp only at c0 c1 c3 hbnd HRT z1 z2 hmod
          by_cases hd : (k : Int) % ev = 0
          · have d5 : (Int.tmod (k : Int) ev == 0) = true := by rw [hmod]; simp; exact hd
            have d6 : Int.tmod (k : Int) ev = 0 := by rw [hmod]; exact hd
            have d7 : ((k : Int) % ev == 0) = true := by simp; exact hd
            have d8 : (k : Int) % ev = 0 := hd
            have HRX := Lib.hid (show rowJ true k 0 (ts.take (q + 1)) = rowJ true k 0 (ts.take q) ++ [⟨(q : Int), (k : Int), hi'⟩] by rw [HRT.out, if_pos hd]; rfl)
            clear hd hmod
            by_cases hfull : L.length = 60
            · have hbad : b = false := by
                rw [← HR.out, HWB.out]
                have hm := worst_more (h := true) (ts := ts) (q := q + 1) hlt
                rw [HRX.out, List.length_append, ← HL0.out] at hm
                have hl := HLL.out
                rw [hl, List.length_append] at hfull
                simp at hm
                exact decide_eq_false (by omega)
              have hv : worstV ts (U : Int) true = [] := by unfold worstV; rw [HR.out, hbad]; rfl
              have HV := Lib.hid hv
              subst hbad
              have e60 : ((L.length : Int) == 60) = true := by simp; omega
              have e61 : (L.length : Int) = 60 := by omega
              clear hv hfull
              go_wp2
              refine bodyPost_ret (v := .tuple #[.slice (some ⟨wq.heap.size, 0, none⟩) 0 0, .bool false]) (by simp [results, Tryz.results126, go_sem]) rfl (by rw [HV.out]; exact ⟨wq.heap.size, 0, rfl, (OwnJ.empty wq).less hwqs, bl_alloc HB.out _⟩)
            · have e60 : ((L.length : Int) == 60) = false := by rw [beq_eq_false_iff_ne]; omega
              have e61 : ¬ (L.length : Int) = 60 := by omega
              have e62 : ¬ L.length = 60 := hfull
              have c0a := fun o' => (World.cell?_alloc_lt wq o' ⟨bt, ot + q * 5, none⟩ hbt4).trans c0
              have c1a := fun o' => (World.cell?_alloc_lt wq o' ⟨bt, ot + q * 5 + 1, none⟩ hbt4).trans c1
              have cj := (Blk.new wq 46 #[.int .i64 (q : Int), .int .i64 (k : Int), .int .i64 lo]).cell
              have fj := (Blk.new wq 46 #[.int .i64 (q : Int), .int .i64 (k : Int), .int .i64 lo]).frozen
              have cj2 := ((Blk.new wq 46 #[.int .i64 (q : Int), .int .i64 (k : Int), .int .i64 lo]).set_ 2 (.int .i64 hi')).cell
              go_wp2_with (at_builtin; refine wpList_append_own _ rfl (.tmp 63) (.tmp 65) 24 rfl w.heap.size 46 i0 _ 3 24 Tryz.underlying24 hi0 hz0 hz1 hz2 rfl (by decide) _ L.length (L.flatMap Jb.cells) rfl (show OwnJ _ w.heap.size _ L from (HO.out.below (by repeat (first | exact Below.refl wq.heap.size wq | refine bl_set ?_ (by dsimp only; omega) _ | refine bl_alloc ?_ _))).alloc _) ⟨wq.heap.size + 1, 0, none⟩ 1 1 (Jb.cells ⟨(q : Int), (k : Int), hi'⟩) rfl rfl (cell_new3_at _ ⟨(q : Int), (k : Int), hi'⟩ _ _ (by simp)) (by intro u hu; exact jcells_one [⟨(q : Int), (k : Int), hi'⟩] u (by simpa using hu)) (by unfold maxLen; omega) (by omega) (by simp; omega) ?_; intro v2 w9 hown2 hgrow2 _; have HO2 := Lib.hid (show OwnJ w9 w.heap.size v2 (L ++ [⟨(q : Int), (k : Int), hi'⟩]) from OwnJ.snoc hown2); have HB9 := Lib.hid ((show Below w.heap.size w _ from bl_alloc (by repeat (first | exact HB.out | refine bl_set ?_ (by dsimp only; omega) _ | refine bl_alloc ?_ _)) _).grown hgrow2 (by simp; omega) (fun k e => (World.ownsRow.lt HO.out k e).1)); obtain ⟨g4, c4', hv2⟩ := HO2.out.some_ (by simp); have HLN := Lib.hid (show (L ++ [(⟨(q : Int), (k : Int), hi'⟩ : Jb)]).length = L.length + 1 by simp); rw [HLN.out] at hv2; subst hv2; clear hown2 hgrow2)
              go_roundw
              case rel => exact ⟨q + 1, g4, c4', L ++ [⟨(q : Int), (k : Int), hi'⟩], by omega, by go_num, by rw [HLN.out], by simp; omega, Lib.hid (by rw [HLL.out, HRX.out, List.append_assoc]), HO2, HB9⟩
              case measure => simp [intOf]; omega
          · have d5 : (Int.tmod (k : Int) ev == 0) = false := by rw [hmod]; simp; exact hd
            have d6 : ¬ Int.tmod (k : Int) ev = 0 := by rw [hmod]; exact hd
            have d7 : ((k : Int) % ev == 0) = false := by simp; exact hd
            have d8 : ¬ (k : Int) % ev = 0 := hd
            have HRX := Lib.hid (show rowJ true k 0 (ts.take (q + 1)) = rowJ true k 0 (ts.take q) by rw [HRT.out, if_neg hd, List.append_nil])
            clear hd hmod
            go_wp2
            go_roundw
            case rel => exact ⟨q + 1, g, cc, L, by omega, by go_num, rfl, hL60, Lib.hid (by rw [HLL.out, HRX.out]), HO, HB⟩
            case measure => simp [intOf]; omega
        · obtain rfl : q = n := by omega
          have HW := Lib.hid (show L = worstL true ts (k + 1) by rw [HLL.out, HL0.out, worstL, List.take_of_length_le (by rw [HL.out]; exact Nat.le_refl _)])
          go_wp2
          go_roundw
          case rel => exact ⟨k + 1, g, cc, by omega, by go_num, by rw [← HW.out], by rw [← HW.out]; exact hL60, by rw [← HW.out]; exact HO, HB⟩
          case measure => simp [intOf]; omega
    · obtain rfl : k = U := by omega
      have hbt : b = true := by rw [← HR.out, HWB.out]; exact decide_eq_true h60
      subst hbt
      have hv : worstV ts (k : Int) true = worstL true ts k := by unfold worstV; rw [HR.out]; rfl
      have HV := Lib.hid hv
      clear hv
      go_wp2
      refine bodyPost_ret (v := .tuple #[.slice (some ⟨g, 0, none⟩) (worstL true ts k).length cc, .bool true]) (by simp [results, Tryz.results126, go_sem]) rfl (by rw [HV.out]; exact ⟨g, cc, rfl, HO.out, HB.out⟩)
set_option maxRecDepth 100000 in
set_option maxHeartbeats 4000000 in
theorem sWorst_false (w : World) (A : Option Addr) (n c : Nat) (ts : List Tk) (h : Tks w w.heap.size A n ts) (hn : n ≤ 1048576) (u : Int) (b : Bool) (hb : worstB ts u false = b) :
    Calls Tryz.prog 126 #[.slice A n c, .int .i64 u, .bool false] w (JsPut (worstV ts u false) b w) := by
  obtain ⟨i0, hi0, hz0, hz1, hz2⟩ := info_parts info_job
  have H := Lib.hid h
  have HL := Lib.hid h.len
  clear h
  have HR := Lib.hid hb
  cases hs : setB ts
  · obtain rfl : b = false := by rw [← hb]; unfold worstB; rw [hs]; rfl
    have hv : worstV ts u false = [] := by unfold worstV; rw [hb]; rfl
    rw [hv]
    have HS := Lib.hid hs
    clear hb hs hv
    go_enter Tryz.func126, Tryz.ntmps126
    go_wp2_with fail
    refine (sSetValid_any _ A n c ts ((H.out.below (bl_alloc (Below.refl w.heap.size w) _)).more (by simp)) hn).mono ?_
    rintro e w1 ⟨rfl, hb⟩
    rw [HS.out]
    have HB1 := Lib.hid (show Below w.heap.size w w1 from bl_trans (bl_alloc (Below.refl w.heap.size w) _) hb)
    have HO := Lib.hid ((OwnJ.empty w).below hb)
    clear hb
    go_wp2
    refine bodyPost_ret (v := .tuple #[.slice (some ⟨w.heap.size, 0, none⟩) 0 0, .bool false]) (by simp [results, Tryz.results126, go_sem]) rfl ⟨w.heap.size, 0, rfl, HO.out, HB1.out⟩
  have hn5 : n ≤ 5 := by have := setB_len hs; rw [HL.out] at this; exact this
  have HS := Lib.hid hs
  by_cases hu : 0 ≤ u ∧ u ≤ 200
  rotate_left
  · obtain rfl : b = false := by rw [← hb]; exact no_of fun hx => by unfold worstB at hx; simp at hx; omega
    have hv : worstV ts u false = [] := by unfold worstV; rw [hb]; rfl
    rw [hv]
    clear hb hs hv
    by_cases h1 : u < 0
    · have d1 : decide (u < 0) = true := decide_eq_true h1
      go_enter Tryz.func126, Tryz.ntmps126
      go_wp2_with fail
      refine (sSetValid_any _ A n c ts ((H.out.below (bl_alloc (Below.refl w.heap.size w) _)).more (by simp)) hn).mono ?_
      rintro e w1 ⟨rfl, hb⟩
      rw [HS.out]
      have HB1 := Lib.hid (show Below w.heap.size w w1 from bl_trans (bl_alloc (Below.refl w.heap.size w) _) hb)
      have HO := Lib.hid ((OwnJ.empty w).below hb)
      clear hb
      go_wp2
      refine bodyPost_ret (v := .tuple #[.slice (some ⟨w.heap.size, 0, none⟩) 0 0, .bool false]) (by simp [results, Tryz.results126, go_sem]) rfl ⟨w.heap.size, 0, rfl, HO.out, HB1.out⟩
    · have d1 : decide (u < 0) = false := decide_eq_false h1
      have h2 : 200 < u := by omega
      have d2 : decide (200 < u) = true := decide_eq_true h2
      go_enter Tryz.func126, Tryz.ntmps126
      go_wp2_with fail
      refine (sSetValid_any _ A n c ts ((H.out.below (bl_alloc (Below.refl w.heap.size w) _)).more (by simp)) hn).mono ?_
      rintro e w1 ⟨rfl, hb⟩
      rw [HS.out]
      have HB1 := Lib.hid (show Below w.heap.size w w1 from bl_trans (bl_alloc (Below.refl w.heap.size w) _) hb)
      have HO := Lib.hid ((OwnJ.empty w).below hb)
      clear hb
      go_wp2
      refine bodyPost_ret (v := .tuple #[.slice (some ⟨w.heap.size, 0, none⟩) 0 0, .bool false]) (by simp [results, Tryz.results126, go_sem]) rfl ⟨w.heap.size, 0, rfl, HO.out, HB1.out⟩
  obtain ⟨hu1, hu2⟩ := hu
  obtain ⟨U, rfl⟩ : ∃ U : Nat, u = (U : Int) := ⟨u.toNat, by omega⟩
  have hU : U ≤ 200 := by omega
  have hwb : worstB ts (U : Int) false = decide ((worstL false ts U).length ≤ 60) := by unfold worstB; rw [hs, decide_eq_true hu1, decide_eq_true hu2]; rfl
  have HWB := Lib.hid hwb
  have d1 : ¬ (U : Int) < 0 := by omega
  have d2 : ¬ (200 : Int) < (U : Int) := by omega
  clear hs hb hwb hu1 hu2
  go_enter Tryz.func126, Tryz.ntmps126
  go_wp2_with fail
  refine (sSetValid_any _ A n c ts ((H.out.below (bl_alloc (Below.refl w.heap.size w) _)).more (by simp)) hn).mono ?_
  rintro e w1 ⟨rfl, hb⟩
  rw [HS.out]
  have HB1 := Lib.hid (show Below w.heap.size w w1 from bl_trans (bl_alloc (Below.refl w.heap.size w) _) hb)
  have HO1 := Lib.hid ((OwnJ.empty w).below hb)
  clear hb
  go_wp2
  go_loopw [8, 9] (fun v i wr => ∃ k g cc : Nat, k ≤ U ∧ i = .int .i64 k ∧ v = .slice (some ⟨g, 0, none⟩) (worstL false ts k).length cc ∧ (worstL false ts k).length ≤ 60 ∧ Hid (OwnJ wr w.heap.size v (worstL false ts k)) ∧ Hid (Below w.heap.size w wr)) (fun _ i _ => U - (intOf i).toNat)
  case atStart => exact ⟨0, w.heap.size, 0, Nat.zero_le _, rfl, rfl, Nat.zero_le _, HO1, HB1⟩
  case round =>
    obtain ⟨k, g, cc, hk, rfl, rfl, h60, HO, HB⟩ := hrel
    by_cases hlt : k < U
    · have k2 : (k : Int) < (U : Int) := by omega
      obtain ⟨L0, hL0⟩ : ∃ L, L = worstL false ts k := ⟨_, rfl⟩
      have HL0 := Lib.hid hL0
      rw [← hL0] at HO h60 ⊢
      clear hL0
      obtain ⟨w5, hw5⟩ : ∃ W, W = wr := ⟨_, rfl⟩
      subst hw5
      go_wp2
      go_loopw [8, 10] (fun v i wr => ∃ q g cc : Nat, ∃ L : List Jb, q ≤ n ∧ i = .int .i64 q ∧ v = .slice (some ⟨g, 0, none⟩) L.length cc ∧ L.length ≤ 60 ∧ Hid (L = L0 ++ rowJ false k 0 (ts.take q)) ∧ Hid (OwnJ wr w.heap.size v L) ∧ Hid (Below w.heap.size w wr)) (fun _ i _ => n - (intOf i).toNat)
      case atStart => exact ⟨0, g, cc, L0, Nat.zero_le _, rfl, rfl, h60, Lib.hid (by simp [rowJ]), HO, HB⟩
      case round =>
        obtain ⟨q, g, cc, L, hq, rfl, rfl, hL60, HLL, HO, HB⟩ := hrel
        obtain ⟨wq, hwq⟩ : ∃ W, W = wr := ⟨_, rfl⟩
        subst hwq
        have hwqs : w.heap.size ≤ wq.heap.size := HB.out.size
        by_cases hqn : q < n
        · have q2 : (q : Int) < (n : Int) := by omega
          obtain ⟨t, ht⟩ : ∃ t, ts[q]? = some t := ⟨ts[q]'(by rw [HL.out]; exact hqn), List.getElem?_eq_getElem _⟩
          obtain ⟨bt, ot, rfl, hbt, c0, c1, c2, c3, c4⟩ := (H.out.below HB.out).at_ q t ht
          have hok : t.ok = true := by
            have := HS.out; unfold setB at this; simp at this
            exact this.2 t (List.mem_of_getElem? ht)
          have hbnd : 1 ≤ t.ev ∧ t.ev ≤ 20 := by unfold Tk.ok validB at hok; simp at hok; omega
          have HRT := Lib.hid (row_take (h := false) (n := k) ht)
          have hbt4 : bt < wq.heap.size := by omega
          have hne : bt ≠ wq.heap.size := by omega
          have z1 : ¬ t.ev = 0 := by omega
          have z2 : (t.ev == 0) = false := by simp; omega
          have hmod : Int.tmod (k : Int) t.ev = (k : Int) % t.ev := Int.tmod_eq_emod_of_nonneg (by omega)
          clear ht hok
          obtain ⟨lo, hi', du, ev, cr⟩ := t
          dsimp only at c0 c1 c3 hbnd HRT z1 z2 hmod
          by_cases hd : (k : Int) % ev = 0
          · have d5 : (Int.tmod (k : Int) ev == 0) = true := by rw [hmod]; simp; exact hd
            have d6 : Int.tmod (k : Int) ev = 0 := by rw [hmod]; exact hd
            have d7 : ((k : Int) % ev == 0) = true := by simp; exact hd
            have d8 : (k : Int) % ev = 0 := hd
            have HRX := Lib.hid (show rowJ false k 0 (ts.take (q + 1)) = rowJ false k 0 (ts.take q) ++ [⟨(q : Int), (k : Int), lo⟩] by rw [HRT.out, if_pos hd]; rfl)
            clear hd hmod
            by_cases hfull : L.length = 60
            · have hbad : b = false := by
                rw [← HR.out, HWB.out]
                have hm := worst_more (h := false) (ts := ts) (q := q + 1) hlt
                rw [HRX.out, List.length_append, ← HL0.out] at hm
                have hl := HLL.out
                rw [hl, List.length_append] at hfull
                simp at hm
                exact decide_eq_false (by omega)
              have hv : worstV ts (U : Int) false = [] := by unfold worstV; rw [HR.out, hbad]; rfl
              have HV := Lib.hid hv
              subst hbad
              have e60 : ((L.length : Int) == 60) = true := by simp; omega
              have e61 : (L.length : Int) = 60 := by omega
              clear hv hfull
              go_wp2
              refine bodyPost_ret (v := .tuple #[.slice (some ⟨wq.heap.size, 0, none⟩) 0 0, .bool false]) (by simp [results, Tryz.results126, go_sem]) rfl (by rw [HV.out]; exact ⟨wq.heap.size, 0, rfl, (OwnJ.empty wq).less hwqs, bl_alloc HB.out _⟩)
            · have e60 : ((L.length : Int) == 60) = false := by rw [beq_eq_false_iff_ne]; omega
              have e61 : ¬ (L.length : Int) = 60 := by omega
              have e62 : ¬ L.length = 60 := hfull
              have c0a := fun o' => (World.cell?_alloc_lt wq o' ⟨bt, ot + q * 5, none⟩ hbt4).trans c0
              have c1a := fun o' => (World.cell?_alloc_lt wq o' ⟨bt, ot + q * 5 + 1, none⟩ hbt4).trans c1
              have cj := (Blk.new wq 46 #[.int .i64 (q : Int), .int .i64 (k : Int), .int .i64 lo]).cell
              have fj := (Blk.new wq 46 #[.int .i64 (q : Int), .int .i64 (k : Int), .int .i64 lo]).frozen
              have cj2 := ((Blk.new wq 46 #[.int .i64 (q : Int), .int .i64 (k : Int), .int .i64 lo]).set_ 2 (.int .i64 lo)).cell
              go_wp2_with (at_builtin; refine wpList_append_own _ rfl (.tmp 63) (.tmp 65) 24 rfl w.heap.size 46 i0 _ 3 24 Tryz.underlying24 hi0 hz0 hz1 hz2 rfl (by decide) _ L.length (L.flatMap Jb.cells) rfl (show OwnJ _ w.heap.size _ L from (HO.out.below (by repeat (first | exact Below.refl wq.heap.size wq | refine bl_set ?_ (by dsimp only; omega) _ | refine bl_alloc ?_ _))).alloc _) ⟨wq.heap.size + 1, 0, none⟩ 1 1 (Jb.cells ⟨(q : Int), (k : Int), lo⟩) rfl rfl (cell_new3_at _ ⟨(q : Int), (k : Int), lo⟩ _ _ (by simp)) (by intro u hu; exact jcells_one [⟨(q : Int), (k : Int), lo⟩] u (by simpa using hu)) (by unfold maxLen; omega) (by omega) (by simp; omega) ?_; intro v2 w9 hown2 hgrow2 _; have HO2 := Lib.hid (show OwnJ w9 w.heap.size v2 (L ++ [⟨(q : Int), (k : Int), lo⟩]) from OwnJ.snoc hown2); have HB9 := Lib.hid ((show Below w.heap.size w _ from bl_alloc (by repeat (first | exact HB.out | refine bl_set ?_ (by dsimp only; omega) _ | refine bl_alloc ?_ _)) _).grown hgrow2 (by simp; omega) (fun k e => (World.ownsRow.lt HO.out k e).1)); obtain ⟨g4, c4', hv2⟩ := HO2.out.some_ (by simp); have HLN := Lib.hid (show (L ++ [(⟨(q : Int), (k : Int), lo⟩ : Jb)]).length = L.length + 1 by simp); rw [HLN.out] at hv2; subst hv2; clear hown2 hgrow2)
              go_roundw
              case rel => exact ⟨q + 1, g4, c4', L ++ [⟨(q : Int), (k : Int), lo⟩], by omega, by go_num, by rw [HLN.out], by simp; omega, Lib.hid (by rw [HLL.out, HRX.out, List.append_assoc]), HO2, HB9⟩
              case measure => simp [intOf]; omega
          · have d5 : (Int.tmod (k : Int) ev == 0) = false := by rw [hmod]; simp; exact hd
            have d6 : ¬ Int.tmod (k : Int) ev = 0 := by rw [hmod]; exact hd
            have d7 : ((k : Int) % ev == 0) = false := by simp; exact hd
            have d8 : ¬ (k : Int) % ev = 0 := hd
            have HRX := Lib.hid (show rowJ false k 0 (ts.take (q + 1)) = rowJ false k 0 (ts.take q) by rw [HRT.out, if_neg hd, List.append_nil])
            clear hd hmod
            go_wp2
            go_roundw
            case rel => exact ⟨q + 1, g, cc, L, by omega, by go_num, rfl, hL60, Lib.hid (by rw [HLL.out, HRX.out]), HO, HB⟩
            case measure => simp [intOf]; omega
        · obtain rfl : q = n := by omega
          have HW := Lib.hid (show L = worstL false ts (k + 1) by rw [HLL.out, HL0.out, worstL, List.take_of_length_le (by rw [HL.out]; exact Nat.le_refl _)])
          go_wp2
          go_roundw
          case rel => exact ⟨k + 1, g, cc, by omega, by go_num, by rw [← HW.out], by rw [← HW.out]; exact hL60, by rw [← HW.out]; exact HO, HB⟩
          case measure => simp [intOf]; omega
    · obtain rfl : k = U := by omega
      have hbt : b = true := by rw [← HR.out, HWB.out]; exact decide_eq_true h60
      subst hbt
      have hv : worstV ts (k : Int) false = worstL false ts k := by unfold worstV; rw [HR.out]; rfl
      have HV := Lib.hid hv
      clear hv
      go_wp2
      refine bodyPost_ret (v := .tuple #[.slice (some ⟨g, 0, none⟩) (worstL false ts k).length cc, .bool true]) (by simp [results, Tryz.results126, go_sem]) rfl (by rw [HV.out]; exact ⟨g, cc, rfl, HO.out, HB.out⟩)
theorem sWorst_is (w : World) (A : Option Addr) (n c : Nat) (ts : List Tk) (h : Tks w w.heap.size A n ts) (hn : n ≤ 1048576) (u : Int) (hh b : Bool) (hb : worstB ts u hh = b) :
    Calls Tryz.prog 126 #[.slice A n c, .int .i64 u, .bool hh] w (JsPut (worstV ts u hh) b w) := by
  cases hh
  · exact sWorst_false w A n c ts h hn u b hb
  · exact sWorst_true w A n c ts h hn u b hb
end
section
open Go.RowKit
set_option linter.unusedVariables false
theorem gb_of_belowJ {a b : World} (h : Below a.heap.size a b) : a.grownBy b none := ⟨h.os, h.tape, h.output, h.size, fun k hk _ => h.block k hk⟩
theorem Rd.bel {w w' : World} {B g : Nat} {A : Option Addr} {n c : Nat} {f : Nat → Int} {p : Nat} (h : Rd w B g A n c f p) (hb : Below w.heap.size w w') : Rd w' B g A n c f p := h.grown (gb_of_belowJ hb) (fun k e => by cases e)
theorem Rd.drew5 {w : World} {B g : Nat} {A : Option Addr} {n c : Nat} {f : Nat → Int} {p : Nat} (h : Rd w B g A n c f p) : Rd w.drew B g A n c f p := ⟨h.blk, h.ge, h.len, h.at_, h.byte⟩
theorem gb_drew5 {a w : World} {row : Option Nat} (h : a.grownBy w row) : a.grownBy w.drew row := ⟨h.os, h.tape, h.output, h.size, h.block⟩
theorem gb_bel {a b c : World} {g : Nat} (h : a.grownBy b (some g)) (k : Below b.heap.size b c) : a.grownBy c (some g) := gb_trans h (gb_of_belowJ k) (fun x e => by cases e)
theorem cell_gb {a w : World} {g b i : Nat} (h : a.grownBy w (some g)) (hb : b < a.heap.size) (hne : b ≠ g) : w.cell? ⟨b, i, none⟩ = a.cell? ⟨b, i, none⟩ := by
  have e := h.block b hb (by intro e; injection e with e; exact hne e)
  simp only [World.cell?, e]
theorem cell_set3 (w : World) {h g i : Nat} (hne : h ≠ g) (a b c : Value) : (((w.setCell ⟨g, 0, none⟩ a).setCell ⟨g, 1, none⟩ b).setCell ⟨g, 2, none⟩ c).cell? ⟨h, i, none⟩ = w.cell? ⟨h, i, none⟩ := by
  rw [World.cell?_setCell_other _ _ _ _ (fun e => by injection e with e1; omega), World.cell?_setCell_other _ _ _ _ (fun e => by injection e with e1; omega), World.cell?_setCell_other _ _ _ _ (fun e => by injection e with e1; omega)]
def smallJ (j : Jb) : Prop := (-1 ≤ j.ta ∧ j.ta ≤ 5) ∧ (0 ≤ j.tm ∧ j.tm ≤ 201) ∧ (0 ≤ j.ne ∧ j.ne ≤ 21)
/-- What a draw of jobs leaves. -/
def JsOut (B g : Nat) (A : Option Addr) (n c : Nat) (f : Nat → Int) (p d m : Nat) (w : World) (e : Ending) (w' : World) : Prop :=
  ∃ (g2 c2 : Nat) (js : List Jb) (p' : Nat), e = .returned (.slice (some ⟨g2, 0, none⟩) js.length c2) ∧ js.length ≤ m ∧ (∀ j ∈ js, smallJ j) ∧ p' ≤ p + d ∧ Rd w' B g A n c f p' ∧ w.grownBy w' (some g) ∧ OwnJ w' w.heap.size (.slice (some ⟨g2, 0, none⟩) js.length c2) js
theorem small_jobs {ts : List Tk} {js : List Jb} (h : jobsB ts js = true) : ∀ j ∈ js, smallJ j := fun j hj => by
  have := wrB_iff.1 (jobs_wr (jobs_set h) (jobs_job h hj))
  unfold smallJ; omega
theorem put_ok {ts : List Tk} {js : List Jb} {j : Jb} (h : putB ts js j = true) : jobsB ts (putV ts js j) = true := by
  unfold putV
  rw [h, if_pos rfl]
  unfold putB at h
  simp at h
  exact h.2
theorem set_good {ts : List Tk} (hg : ∀ t ∈ ts, goodTk t) (hl : ts.length ≤ 5) : setB ts = true := by
  unfold setB
  simp only [Bool.and_eq_true, decide_eq_true_iff, List.all_eq_true]
  exact ⟨hl, fun t ht => goodT.valid (hg t ht)⟩
set_option maxRecDepth 100000 in
set_option maxHeartbeats 8000000 in
theorem l6Jobs_any (w : World) (B g : Nat) (A : Option Addr) (n c : Nat) (f : Nat → Int) (p : Nat) (hr : Rd w B g A n c f p) (hp : p ≤ 1000) (B1 : Nat) (A1 : Option Addr) (c1 : Nat) (ts : List Tk) (ho : Own w B1 (.slice A1 ts.length c1) ts) (hB1 : g < B1) (hg : ∀ t ∈ ts, goodTk t) (hl : ts.length ≤ 5) :
    Calls Tryz.prog 85 #[.pointer (some ⟨g, 0, none⟩), .slice A1 ts.length c1] w (JsOut B g A n c f p 200 60 w) := by
  obtain ⟨i0, hi, hz0, hz1, hz2⟩ := info_parts info_job
  have HR := Lib.hid hr
  have HO := Lib.hid ho
  have HGD := Lib.hid hg
  have HSB := Lib.hid (set_good hg hl)
  have hgl := hr.lt
  have hBg := hr.ge
  obtain ⟨m, hm⟩ : ∃ m, ts.length = m := ⟨_, rfl⟩
  have HM := Lib.hid hm
  clear hr ho hg
  rw [hm] at HO hl ⊢
  clear hm
  go_enter Tryz.func85, Tryz.ntmps85
  go_wp2_with fail
  refine (pick_any _ B g A n c f p 3 (HR.out.alloc _) (by omega) (by omega)).mono ?_
  rintro e w1 ⟨y, rfl, y0, _, _, hr1, hgb1⟩
  have HR1 := Lib.hid hr1
  have HG1 := Lib.hid (gb_trans (gb_alloc (World.grownBy.refl w (some g)) _) hgb1 (fun x e => .inl (by injection e with e; exact e.symm)))
  have HO1 := Lib.hid ((HO.out.alloc (.cells #[] 46)).kept hgb1 (fun k e => by injection e with e; omega))
  have HJ1 := Lib.hid ((OwnJ.empty w).kept hgb1 (fun k e => by injection e with e; omega))
  have hs1 : w.heap.size ≤ w1.heap.size := HG1.out.size
  clear hr1 hgb1
  by_cases hy : y = 0
  · subst hy
    go_wp2_with fail
    refine (num_any _ B g A n c f (p + 1) _ 4 5 40 (HR1.out.alloc _) (by omega) (by omega) (by omega) (by simp; omega) ?_).mono ?_
    · exact lit_cells_at _ _ _ _ _ _ (by simp) (fun i hi => by rcases (by omega : i = 0 ∨ i = 1 ∨ i = 2 ∨ i = 3) with rfl | rfl | rfl | rfl <;> exact ⟨_, rfl, by decide, by decide⟩)
    rintro e w2 ⟨u, rfl, hu0, hu1, hr2, hgb2⟩
    have HR2 := Lib.hid hr2
    have HG2 := Lib.hid (gb_trans (gb_alloc HG1.out _) hgb2 (fun x e => .inl (by injection e with e; exact e.symm)))
    have HO2 := Lib.hid ((HO1.out.alloc _).kept hgb2 (fun k e => by injection e with e; omega))
    clear hr2 hgb2
    go_wp2_with fail
    refine (pick_any _ B g A n c f (p + 1 + 1) 2 HR2.out (by omega) (by omega)).mono ?_
    rintro e w3 ⟨z, rfl, z0, _, _, hr3, hgb3⟩
    have HR3 := Lib.hid hr3
    have HG3 := Lib.hid (gb_trans HG2.out hgb3 (fun x e => .inl (by injection e with e; exact e.symm)))
    have HO3 := Lib.hid (HO2.out.kept hgb3 (fun k e => by injection e with e; omega))
    clear hr3 hgb3
    obtain ⟨bz, hbz⟩ : ∃ b, (z == 0) = b := ⟨_, rfl⟩
    obtain ⟨bw, hbw⟩ : ∃ b, worstB ts u bz = b := ⟨_, rfl⟩
    have HBW := Lib.hid hbw
    clear hbw
    go_wp2_with fail
    refine (sWorst_is _ A1 m c1 ts HO3.out.reads.2 (by omega) u bz bw HBW.out).mono ?_
    rintro e w4 ⟨g4, c4, rfl, ho4, hb4⟩
    have HR4 := Lib.hid (HR3.out.bel hb4)
    have HG4 := Lib.hid (gb_bel HG3.out hb4)
    have HO4 := Lib.hid (ho4.less (HG3.out.size))
    have HSM := Lib.hid (show (worstV ts u bz).length ≤ 60 ∧ ∀ j ∈ worstV ts u bz, smallJ j by
      unfold worstV
      cases hh : worstB ts u bz
      · simp
      · have hj := worst_jobs hh
        exact ⟨jobs_len hj, small_jobs hj⟩)
    clear hb4 ho4
    go_wp2
    go_ret
    exact ⟨g4, c4, worstV ts u bz, p + 1 + 1 + 1, rfl, HSM.out.1, HSM.out.2, by omega, HR4.out, HG4.out, HO4.out⟩
  have hy0 : (y == 0) = false := by simp; exact hy
  go_wp2_with fail
  refine (num_any _ B g A n c f (p + 1) _ 6 0 20 (HR1.out.alloc _) (by omega) (by omega) (by omega) (by simp; omega) ?_).mono ?_
  · exact lit_cells_at _ _ _ _ _ _ (by simp) (fun i hi => by rcases (by omega : i = 0 ∨ i = 1 ∨ i = 2 ∨ i = 3 ∨ i = 4 ∨ i = 5) with rfl | rfl | rfl | rfl | rfl | rfl <;> exact ⟨_, rfl, by decide, by decide⟩)
  rintro e w2 ⟨u, rfl, hu0, hu1, hr2, hgb2⟩
  have HR2 := Lib.hid hr2
  have HG2 := Lib.hid (gb_trans (gb_alloc HG1.out _) hgb2 (fun x e => .inl (by injection e with e; exact e.symm)))
  have HO2 := Lib.hid ((HO1.out.alloc _).kept hgb2 (fun k e => by injection e with e; omega))
  have HJ2 := Lib.hid ((HJ1.out.alloc _).kept hgb2 (fun k e => by injection e with e; omega))
  clear hr2 hgb2
  obtain ⟨U, rfl⟩ : ∃ U : Nat, u = (U : Int) := ⟨u.toNat, by omega⟩
  clear hu0
  go_wp2
  go_loopw [5, 6] (fun v i wr => ∃ (q g3 c3 p' : Nat) (js : List Jb), q ≤ 20 ∧ i = .int .i64 q ∧ v = .slice (some ⟨g3, 0, none⟩) js.length c3 ∧ p' + 3 * q ≤ p + 2 + 60 ∧ js.length ≤ 60 ∧ Hid (jobsB ts js = true) ∧ Hid (OwnJ wr w.heap.size v js) ∧ Hid (Own wr B1 (.slice A1 m c1) ts) ∧ Hid (Rd wr B g A n c f p') ∧ Hid (w.grownBy wr (some g))) (fun _ i _ => (intOf i).toNat)
  case atStart => exact ⟨U, w.heap.size, 0, p + 1 + 1, [], by omega, rfl, rfl, by omega, by simp, Lib.hid (jobs_parts.2 ⟨HSB.out, by simp, rfl, rfl⟩), HJ2, HO2, HR2, HG2⟩
  case round =>
    obtain ⟨q, g3, c3, p', js, hq, rfl, rfl, hp', hjl, HJB, HJ, HL, HRd, HG⟩ := hrel
    obtain ⟨w4, hw4⟩ : ∃ W, W = wr := ⟨_, rfl⟩
    subst hw4
    have hs4 : w.heap.size ≤ w4.heap.size := HG.out.size
    clear HR1 HG1 HO1 HJ1 HR2 HG2 HO2 HJ2
    by_cases hq0 : q = 0
    · subst hq0
      go_wp2
      go_ret
      exact ⟨g3, c3, js, p', rfl, hjl, small_jobs HJB.out, by omega, HRd.out, HG.out, HJ.out⟩
    have q0 : (0 : Int) < (q : Int) := by omega
    have q00 : 0 < q := by omega
    by_cases hm0 : m = 0
    · subst hm0
      go_wp2
      go_ret
      exact ⟨g3, c3, js, p', rfl, hjl, small_jobs HJB.out, by omega, HRd.out, HG.out, HJ.out⟩
    have m0 : (0 : Int) < (m : Int) := by omega
    have m00 : 0 < m := by omega
    go_wp2_with fail
    refine (pick_any _ B g A n c f p' (m : Int) HRd.out (by omega) (by omega)).mono ?_
    rintro e w5 ⟨xx, rfl, x0, x1, _, hr5, hgb5⟩
    have hx1 := x1 (by omega)
    obtain ⟨x, rfl⟩ : ∃ x : Nat, xx = (x : Int) := ⟨xx.toNat, by omega⟩
    have hxm : x < m := by omega
    have HR5 := Lib.hid hr5
    have HGW := Lib.hid (gb_trans HG.out hgb5 (fun x e => .inl (by injection e with e; exact e.symm)))
    have HL5 := Lib.hid (HL.out.kept hgb5 (fun k e => by injection e with e; omega))
    have HJ5 := Lib.hid (HJ.out.kept hgb5 (fun k e => by injection e with e; omega))
    have hs5 : w.heap.size ≤ w5.heap.size := HGW.out.size
    clear hr5 hgb5 x1 HRd HG HL HJ
    obtain ⟨t, ht⟩ : ∃ t, ts[x]? = some t := ⟨ts[x]'(by rw [HM.out]; exact hxm), List.getElem?_eq_getElem _⟩
    have hgd := HGD.out t (List.mem_of_getElem? ht)
    have hbnd : 1 ≤ t.hi ∧ t.hi ≤ 20 := by unfold goodTk goodT at hgd; omega
    obtain ⟨bt, ot, hA1, hbt5, d0, d1, d2, d3, d4⟩ := HL5.out.reads.2.at_ x t ht
    have hotz : ot = 0 ∧ B1 ≤ bt := by
      rcases HL5.out.2 with ⟨e, h0⟩ | ⟨gg, cap, cur, e, hbb, _⟩
      · exfalso; have := HM.out; omega
      · injection e with e1 e2 e3
        rw [hA1] at e1
        injection e1 with e1
        injection e1 with e1 e2
        exact ⟨e2, by omega⟩
    obtain ⟨rfl, hbB⟩ := hotz
    have hbtg : bt ≠ g := by omega
    rw [Nat.zero_add] at d1
    obtain ⟨lo, hi', du, ev, cr⟩ := t
    dsimp only at d1 hbnd
    have hS5 := d1
    have x2 : (x : Int) < (m : Int) := by omega
    clear hgd d0 d1 d2 d3 d4 ht
    subst hA1
    go_wp2_with fail
    have hS5d : w5.drew.cell? ⟨bt, x * 5 + 1, none⟩ = some (.int .i64 hi') := hS5
    have hS5a : ∀ o : Obj, (w5.alloc o).drew.cell? ⟨bt, x * 5 + 1, none⟩ = some (.int .i64 hi') := fun o => (World.cell?_alloc_lt w5 o ⟨bt, x * 5 + 1, none⟩ hbt5).trans hS5
    have hbt5d : (⟨bt, x * 5 + 1, none⟩ : Addr).block < w5.drew.heap.size := hbt5
    go_region_held3 (fun W => W.cell? ⟨bt, x * 5 + 1, none⟩ = some (.int .i64 hi')) (first | with_reducible exact hS5d | with_reducible exact hS5 | with_reducible exact hS5a _ | with_reducible exact hS6 | with_reducible exact hS7 | with_reducible exact (World.cell?_alloc_lt _ _ ⟨bt, x * 5 + 1, none⟩ hbt5d).trans hS5d | with_reducible exact (World.cell?_alloc_lt w6 _ ⟨bt, x * 5 + 1, none⟩ (show bt < w6.heap.size from Nat.lt_of_lt_of_le hbt5 HG6.out.size)).trans hS6 | with_reducible exact (World.cell?_alloc_lt w7 _ ⟨bt, x * 5 + 1, none⟩ (show bt < w7.heap.size from Nat.lt_of_lt_of_le hbt5 HG7.out.size)).trans hS7 | with_reducible exact (cell_set3 w7 (show bt ≠ w5.heap.size from Nat.ne_of_lt hbt5) _ _ _).trans hS7 | with_reducible exact (cell_set3 w7 (show bt ≠ w6.heap.size from Nat.ne_of_lt (Nat.lt_of_lt_of_le hbt5 HG6.out.size)) _ _ _).trans hS7 | with_reducible exact (cell_set3 w7 (show bt ≠ w5.drew.heap.size from Nat.ne_of_lt hbt5) _ _ _).trans hS7)
      ((first
        | (have uu := HR6; clear uu; go_at_call 43; refine (pick_any _ B g A n c f (p' + 1 + 1) hi' (by repeat (first | exact HR6.out | refine Rd.alloc ?_ _ | refine Rd.drew5 ?_)) (by omega) (by omega)).mono ?_; rintro e w7 ⟨y2, rfl, y20, y21, _, hr, hgb⟩; have HR7 := Lib.hid hr; have HG7 := Lib.hid (show w5.grownBy w7 (some g) from gb_trans (by repeat (first | exact HG6.out | refine gb_alloc ?_ _ | refine gb_drew5 ?_)) hgb (fun x e => .inl (by injection e with e; exact e.symm))); have hS7 := (cell_gb HG7.out hbt5 hbtg (i := x * 5 + 1)).trans hS5; (first | (have bC := Lib.hid (Blk.grown bC.out hgb (by intro e; injection e; omega))) | (have bC := Lib.hid (Blk.grown (show Blk _ w6.heap.size 46 #[.int .i64 0, .int .i64 0, .int .i64 0] from by have hh := Blk.new w6 46 #[.int .i64 0, .int .i64 0, .int .i64 0]; exact hh) hgb (by intro e; injection e; have := HR6.out.lt; omega))) | skip); (first | (have cC := bC.out.cell; have fC := bC.out.frozen) | skip); have hy2 := y21 (by omega); have kw : IntKind.i64.wrap (1 + y2) = 1 + y2 := IntWalk.i64_in _ (by omega); clear hr hgb)
        | (have uu := HR5; clear uu; go_at_call 43; refine (pick_any _ B g A n c f (p' + 1) 30 (by repeat (first | exact HR5.out | refine Rd.alloc ?_ _ | refine Rd.drew5 ?_)) (by omega) (by omega)).mono ?_; rintro e w6 ⟨y1, rfl, y10, y11, _, hr, hgb⟩; have HR6 := Lib.hid hr; have HG6 := Lib.hid (show w5.grownBy w6 (some g) from gb_trans (by repeat (first | exact World.grownBy.refl w5 _ | refine gb_alloc ?_ _ | refine gb_drew5 ?_)) hgb (fun x e => .inl (by injection e with e; exact e.symm))); have hS6 := (cell_gb HG6.out hbt5 hbtg (i := x * 5 + 1)).trans hS5; (first | (have bC := Lib.hid (Blk.grown bC.out hgb (by intro e; injection e; omega))) | (have bC := Lib.hid (Blk.grown (show Blk _ w5.heap.size 46 #[.int .i64 0, .int .i64 0, .int .i64 0] from by have hh := Blk.new w5 46 #[.int .i64 0, .int .i64 0, .int .i64 0]; exact hh) hgb (by intro e; injection e; have := HR5.out.lt; omega))) | skip); (first | (have cC := bC.out.cell; have fC := bC.out.frozen) | skip); have hy1 := y11 (by omega); clear hr hgb)))
    all_goals first
      | (have bJ := Lib.hid (show Blk (((w7.setCell ⟨w6.heap.size, 0, none⟩ (.int .i64 (x : Int))).setCell ⟨w6.heap.size, 1, none⟩ (.int .i64 y1)).setCell ⟨w6.heap.size, 2, none⟩ (.int .i64 (1 + y2))) (w6.heap.size) 46 #[.int .i64 (x : Int), .int .i64 y1, .int .i64 (1 + y2)] from ((bC.out.set_ 0 _).set_ 1 _).set_ 2 _); have GB := Lib.hid (show w5.grownBy (((w7.setCell ⟨w6.heap.size, 0, none⟩ (.int .i64 (x : Int))).setCell ⟨w6.heap.size, 1, none⟩ (.int .i64 y1)).setCell ⟨w6.heap.size, 2, none⟩ (.int .i64 (1 + y2))) (some g) from gb_set (gb_set (gb_set HG7.out (.inr HG6.out.size) _) (.inr HG6.out.size) _) (.inr HG6.out.size) _); have RD := Lib.hid (show Rd (((w7.setCell ⟨w6.heap.size, 0, none⟩ (.int .i64 (x : Int))).setCell ⟨w6.heap.size, 1, none⟩ (.int .i64 y1)).setCell ⟨w6.heap.size, 2, none⟩ (.int .i64 (1 + y2))) B g A n c f (p' + 1 + 1 + 1) from Rd.set (Rd.set (Rd.set HR7.out (by dsimp only; have := HG6.out.size; omega) (by dsimp only; have := HG6.out.size; have := HR5.out.lt; omega) _) (by dsimp only; have := HG6.out.size; omega) (by dsimp only; have := HG6.out.size; have := HR5.out.lt; omega) _) (by dsimp only; have := HG6.out.size; omega) (by dsimp only; have := HG6.out.size; have := HR5.out.lt; omega) _); have hav : w5.heap.size ≤ w6.heap.size := HG6.out.size; (try clear bC cC fC); clear HR6 HG6 HR7 HG7 hS6 hS7; generalize (((w7.setCell ⟨w6.heap.size, 0, none⟩ (.int .i64 (x : Int))).setCell ⟨w6.heap.size, 1, none⟩ (.int .i64 y1)).setCell ⟨w6.heap.size, 2, none⟩ (.int .i64 (1 + y2))) = w8 at *; generalize w6.heap.size = av at *)
      | (have bJ := Lib.hid (show Blk (((w7.setCell ⟨w5.heap.size, 0, none⟩ (.int .i64 (x : Int))).setCell ⟨w5.heap.size, 1, none⟩ (.int .i64 y1)).setCell ⟨w5.heap.size, 2, none⟩ (.int .i64 (1 + y2))) (w5.heap.size) 46 #[.int .i64 (x : Int), .int .i64 y1, .int .i64 (1 + y2)] from ((bC.out.set_ 0 _).set_ 1 _).set_ 2 _); have GB := Lib.hid (show w5.grownBy (((w7.setCell ⟨w5.heap.size, 0, none⟩ (.int .i64 (x : Int))).setCell ⟨w5.heap.size, 1, none⟩ (.int .i64 y1)).setCell ⟨w5.heap.size, 2, none⟩ (.int .i64 (1 + y2))) (some g) from gb_set (gb_set (gb_set HG7.out (.inr (Nat.le_refl _)) _) (.inr (Nat.le_refl _)) _) (.inr (Nat.le_refl _)) _); have RD := Lib.hid (show Rd (((w7.setCell ⟨w5.heap.size, 0, none⟩ (.int .i64 (x : Int))).setCell ⟨w5.heap.size, 1, none⟩ (.int .i64 y1)).setCell ⟨w5.heap.size, 2, none⟩ (.int .i64 (1 + y2))) B g A n c f (p' + 1 + 1 + 1) from Rd.set (Rd.set (Rd.set HR7.out (by dsimp only; have := HG6.out.size; omega) (by dsimp only; have := HG6.out.size; have := HR5.out.lt; omega) _) (by dsimp only; have := HG6.out.size; omega) (by dsimp only; have := HG6.out.size; have := HR5.out.lt; omega) _) (by dsimp only; have := HG6.out.size; omega) (by dsimp only; have := HG6.out.size; have := HR5.out.lt; omega) _); have hav : w5.heap.size ≤ w5.heap.size := (Nat.le_refl _); (try clear bC cC fC); clear HR6 HG6 HR7 HG7 hS6 hS7; generalize (((w7.setCell ⟨w5.heap.size, 0, none⟩ (.int .i64 (x : Int))).setCell ⟨w5.heap.size, 1, none⟩ (.int .i64 y1)).setCell ⟨w5.heap.size, 2, none⟩ (.int .i64 (1 + y2))) = w8 at *; generalize w5.heap.size = av at *)
      | (have bJ := Lib.hid (show Blk (w7.alloc (.cells #[.int .i64 (x : Int), .int .i64 y1, .int .i64 (1 + y2)] 46)) (w7.heap.size) 46 #[.int .i64 (x : Int), .int .i64 y1, .int .i64 (1 + y2)] from Blk.new w7 _ _); have GB := Lib.hid (show w5.grownBy (w7.alloc (.cells #[.int .i64 (x : Int), .int .i64 y1, .int .i64 (1 + y2)] 46)) (some g) from gb_alloc HG7.out _); have RD := Lib.hid (show Rd (w7.alloc (.cells #[.int .i64 (x : Int), .int .i64 y1, .int .i64 (1 + y2)] 46)) B g A n c f (p' + 1 + 1 + 1) from HR7.out.alloc _); have hav : w5.heap.size ≤ w7.heap.size := HG7.out.size; (try clear bC cC fC); clear HR6 HG6 HR7 HG7 hS6 hS7; generalize (w7.alloc (.cells #[.int .i64 (x : Int), .int .i64 y1, .int .i64 (1 + y2)] 46)) = w8 at *; generalize w7.heap.size = av at *)
    all_goals (
      have cj := bJ.out.cell
      have HL8 := Lib.hid (HL5.out.kept GB.out (fun k e => by injection e with e; omega))
      have HJ8 := Lib.hid (HJ5.out.kept GB.out (fun k e => by injection e with e; omega))
      have HG8 := Lib.hid (gb_trans HGW.out GB.out (fun x e => .inl (by injection e with e; exact e.symm)))
      have hle8 := HJ8.out.le
      have hs8 : w.heap.size ≤ w8.heap.size := HG8.out.size
      clear HL5 HJ5 HGW GB HR5 hS5 hS5d hS5a hbt5d)
    all_goals obtain ⟨pb, hpb⟩ : ∃ b, putB ts js ⟨(x : Int), y1, 1 + y2⟩ = b := ⟨_, rfl⟩
    all_goals have HPB := Lib.hid hpb
    all_goals clear hpb
    all_goals go_wp2_with fail
    all_goals refine (sPut_is _ (some ⟨bt, 0, none⟩) m c1 ts (HL8.out.reads.2) (by omega) g3 0 js.length c3 js (HJ8.out.reads.2) hle8 ⟨(x : Int), y1, 1 + y2⟩ pb HPB.out).mono ?_
    all_goals rintro e w9 ⟨g4, c4, rfl, ho9, hb9⟩
    all_goals have HO9 := Lib.hid (ho9.less hs8)
    all_goals have HJ9 := Lib.hid (HJ8.out.below hb9)
    all_goals have HL9 := Lib.hid (HL8.out.below hb9)
    all_goals have RD9 := Lib.hid (RD.out.bel hb9)
    all_goals have HG9 := Lib.hid (gb_bel HG8.out hb9)
    all_goals clear ho9 hb9 cj
    all_goals cases pb
    all_goals (
      go_wp2
      go_roundw
      case rel =>
        first
        | exact ⟨q - 1, g4, c4, p' + 1 + 1 + 1, putV ts js ⟨(x : Int), y1, 1 + y2⟩, by omega, by go_num, rfl, by omega, jobs_len (put_ok HPB.out), Lib.hid (put_ok HPB.out), HO9, HL9, RD9, HG9⟩
        | exact ⟨q - 1, g3, c3, p' + 1 + 1 + 1, js, by omega, by go_num, rfl, by omega, hjl, HJB, HJ9, HL9, RD9, HG9⟩
      case measure => simp [intOf]; omega)
end
section
open Go.RowKit
set_option linter.unusedVariables false
/-- Tasks and jobs of the call's own. -/
def DrewLJ (w : World) (e : Ending) (w' : World) : Prop :=
  ∃ (A : Option Addr) (c : Nat) (ts : List Tk) (g2 c2 : Nat) (js : List Jb), e = .returned (.tuple #[.slice A ts.length c, .slice (some ⟨g2, 0, none⟩) js.length c2]) ∧ ts.length ≤ 5 ∧ (∀ t ∈ ts, smallTk t) ∧ js.length ≤ 61 ∧ (∀ j ∈ js, smallJ j) ∧ Own w' w.heap.size (.slice A ts.length c) ts ∧ OwnJ w' w.heap.size (.slice (some ⟨g2, 0, none⟩) js.length c2) js ∧ Below w.heap.size w w'
theorem OwnJ.cells_ {w : World} {B h n c : Nat} {js : List Jb} (ho : OwnJ w B (.slice (some ⟨h, 0, none⟩) n c) js) : B ≤ h ∧ h < w.heap.size := by
  rcases ho.2 with ⟨e, _⟩ | ⟨g, cap, cur, e, hb, hh, _⟩
  · cases e
  · injection e with e1 e2 e3
    injection e1 with e1
    injection e1 with e1
    subst e1
    exact ⟨hb, (Array.getElem?_eq_some_iff.1 hh).1⟩
theorem Own.kept_row {w w' : World} {B : Nat} {v : Value} {ts : List Tk} {row : Option Nat} (h : Own w B v ts) (hg : w.grownBy w' row) (hr : ∀ k, v.ownBlock = some k → row = some k → False) : Own w' B v ts := by
  refine World.ownsRow.kept h hg ?_
  rcases he : v.ownBlock with _ | k
  · exact .inl rfl
  · right
    intro e
    exact hr k he e.symm
theorem jset_cells (js : List Jb) : ∀ (k : Nat) (j : Jb) (z : Int), js[k]? = some j →
    (js.flatMap Jb.cells).set (k * 3 + 2) (.int .i64 z) = (js.set k ⟨j.ta, j.tm, z⟩).flatMap Jb.cells := by
  induction js with
  | nil => intro k j z h; simp at h
  | cons a js ih =>
    intro k j z h
    cases k with
    | zero => simp at h; subst h; simp [List.flatMap_cons, Jb.cells]
    | succ k =>
      have e0 : (k + 1) * 3 = k * 3 + 3 := by omega
      simp only [List.flatMap_cons, Jb.cells, List.set_cons_succ, e0, List.cons_append, List.nil_append, Nat.add_right_comm]
      rw [← ih k j z (by simpa using h)]
theorem OwnJ.put {w : World} {B h n c : Nat} {js : List Jb} (ho : OwnJ w B (.slice (some ⟨h, 0, none⟩) n c) js) (k : Nat) (j : Jb) (z : Int) (hk : js[k]? = some j) :
    OwnJ (w.setCell ⟨h, k * 3 + 2, none⟩ (.int .i64 z)) B (.slice (some ⟨h, 0, none⟩) n c) (js.set k ⟨j.ta, j.tm, z⟩) := by
  have hn := ho.reads.1
  subst hn
  have h1 := (World.ownsRow.stored ho (k * 3 + 2) (.int .i64 z)).1
  unfold OwnJ
  rw [List.length_set, ← jset_cells js k j z hk]
  exact h1
set_option maxRecDepth 100000 in
set_option maxHeartbeats 4000000 in
theorem l6Case_any (w : World) (A : Option Addr) (n c : Nat) (f : Nat → Int) (h : Code w w.heap.size A n c f) :
    Calls Tryz.prog 44 #[.slice A n c] w (DrewLJ w) := by
  obtain ⟨i0, hi, hz0, hz1, hz2⟩ := info_parts info_job
  have H := Lib.hid h
  clear h
  go_enter Tryz.func44, Tryz.ntmps44
  go_wp2_with fail
  refine (open_any _ A n c f H.out).mono ?_
  rintro e w1 ⟨rfl, m, hr, hb⟩
  have hgl := hr.lt
  have HR := Lib.hid hr
  have HB := Lib.hid hb
  clear hr hb
  go_wp2_with fail
  refine (set_any _ _ _ _ _ _ _ _ HR.out (by omega)).mono ?_
  rintro e w2 ⟨v, ts, p, rfl, hl, hg, hp, hr, hgb, ho⟩
  obtain ⟨A2, c2, rfl⟩ := ho.form
  have hlt2 := hr.lt
  have HR2 := Lib.hid hr
  have HB2 := Lib.hid (below_of_gb HB.out hgb HB.out.size (Nat.le_refl _))
  have HO2 := Lib.hid ho
  have HS := Lib.hid (fun t ht => (hg t ht).small : ∀ t ∈ ts, smallTk t)
  have HGD := Lib.hid hg
  have HA2 := Lib.hid (show ∀ k, (Value.slice A2 ts.length c2).ownBlock = some k → k < w2.heap.size from fun k e => (World.ownsRow.lt ho k e).2)
  have hs12 : w1.heap.size ≤ w2.heap.size := hgb.size
  clear hr hgb ho hg
  go_wp2_with fail
  refine (l6Jobs_any _ _ _ _ _ _ _ _ HR2.out (by omega) w1.heap.size A2 c2 ts HO2.out (by omega) HGD.out (by omega)).mono ?_
  rintro e w3 ⟨g3, c3, js, p3, rfl, hjl, hjs, hp3, hr, hgb, ho⟩
  have HR3 := Lib.hid hr
  have HB3 := Lib.hid (below_of_gb HB2.out hgb HB2.out.size (Nat.le_refl _))
  have HO3 := Lib.hid (HO2.out.kept hgb (fun k e => by injection e with e; omega))
  have HJ3 := Lib.hid ho
  have HSJ := Lib.hid hjs
  clear hr hgb ho hjs HR HR2 HB2 HO2
  go_wp2_with fail
  refine (pick_any _ _ _ _ _ _ _ p3 20 HR3.out (by omega) (by omega)).mono ?_
  rintro e w4 ⟨y, rfl, y0, _, _, hr, hgb⟩
  have HR4 := Lib.hid hr
  have HB4 := Lib.hid (below_of_gb HB3.out hgb HB3.out.size (Nat.le_refl _))
  have HO4 := Lib.hid (HO3.out.kept hgb (fun k e => by injection e with e; omega))
  have HJ4 := Lib.hid (HJ3.out.kept hgb (fun k e => by injection e with e; omega))
  clear hr hgb HR3 HB3 HO3 HJ3
  have hw1 : w.heap.size < w1.heap.size := hgl
  have hlt4 := HR4.out.lt
  obtain ⟨nj, hnj⟩ : ∃ k, js.length = k := ⟨_, rfl⟩
  have HN := Lib.hid hnj
  by_cases hy0 : y = 0
  · subst hy0
    clear hnj HN
    go_wp2_with fail
    refine (num_any _ _ _ _ _ _ _ (p3 + 1) _ 3 (-1) 5 (HR4.out.alloc _) (by omega) (by omega) (by omega) (by omega) ?_).mono ?_
    · exact lit_cells_at _ _ _ _ _ _ (by simp) (fun i hi => by rcases (by omega : i = 0 ∨ i = 1 ∨ i = 2) with rfl | rfl | rfl <;> exact ⟨_, rfl, by decide, by decide⟩)
    rintro e w5 ⟨x1, rfl, x10, x11, hr, hgb⟩
    have hlt5 := hr.lt
    have HR5 := Lib.hid hr
    have HG5 := Lib.hid (gb_trans (gb_alloc (World.grownBy.refl w4 _) _) hgb (fun x e => .inl (by injection e with e; exact e.symm)))
    clear hr hgb
    go_wp2_with fail
    refine (num_any _ _ _ _ _ _ _ (p3 + 1 + 1) _ 3 0 201 (HR5.out.alloc _) (by omega) (by omega) (by omega) (by omega) ?_).mono ?_
    · exact lit_cells_at _ _ _ _ _ _ (by simp) (fun i hi => by rcases (by omega : i = 0 ∨ i = 1 ∨ i = 2) with rfl | rfl | rfl <;> exact ⟨_, rfl, by decide, by decide⟩)
    rintro e w6 ⟨x2, rfl, x20, x21, hr, hgb⟩
    have hlt6 := hr.lt
    have HR6 := Lib.hid hr
    have HG6 := Lib.hid (gb_trans (gb_alloc HG5.out _) hgb (fun x e => .inl (by injection e with e; exact e.symm)))
    clear hr hgb
    go_wp2_with fail
    refine (num_any _ _ _ _ _ _ _ (p3 + 1 + 1 + 1) _ 3 0 21 (HR6.out.alloc _) (by omega) (by omega) (by omega) (by omega) ?_).mono ?_
    · exact lit_cells_at _ _ _ _ _ _ (by simp) (fun i hi => by rcases (by omega : i = 0 ∨ i = 1 ∨ i = 2) with rfl | rfl | rfl <;> exact ⟨_, rfl, by decide, by decide⟩)
    rintro e w7 ⟨x3, rfl, x30, x31, hr, hgb⟩
    have hlt7 := hr.lt
    have HR7 := Lib.hid hr
    have HG7 := Lib.hid (gb_trans (gb_alloc HG6.out _) hgb (fun x e => .inl (by injection e with e; exact e.symm)))
    clear hr hgb
    have HJ7 := Lib.hid (HJ4.out.kept HG7.out (fun k e => by injection e with e; omega))
    have HO7 := Lib.hid (HO4.out.kept HG7.out (fun k e => by injection e with e; omega))
    have HB7 := Lib.hid (below_of_gb HB4.out HG7.out HB4.out.size (Nat.le_refl _))
    have hs7 : w.heap.size ≤ w7.heap.size := HB7.out.size
    have XB := Lib.hid (show smallJ ⟨x1, x2, x3⟩ from ⟨⟨x10, x11⟩, ⟨x20, x21⟩, ⟨x30, x31⟩⟩)
    have hcap := HJ7.out.le
    have hg3 := HJ7.out.cells_
    clear HG5 HG6 HG7 HR5 HR6 HR7 HJ4 HO4 HB4 HR4
    go_wp2_with (at_builtin; refine wpList_append_own _ rfl (.tmp 19) (.tmp 30) 24 rfl w2.heap.size 46 i0 _ 3 24 Tryz.underlying24 hi hz0 hz1 hz2 rfl (by decide) _ js.length (js.flatMap Jb.cells) rfl (show OwnJ _ w2.heap.size _ js from HJ7.out.alloc _) ⟨w7.heap.size, 0, none⟩ 1 1 (Jb.cells ⟨x1, x2, x3⟩) rfl rfl (cell_new3 _ ⟨x1, x2, x3⟩ _) (by intro u hu; exact jcells_one [⟨x1, x2, x3⟩] u (by simpa using hu)) (by unfold maxLen; omega) (by omega) (by simp; omega) ?_; intro v2 w9 hown2 hgrow2 _; have HJ9 := Lib.hid (show OwnJ w9 w2.heap.size v2 (js ++ [⟨x1, x2, x3⟩]) from OwnJ.snoc hown2); have HB9 := Lib.hid ((show Below w.heap.size w _ from bl_alloc HB7.out _).grown hgrow2 (by simp; omega) (fun k e => Nat.le_trans (Nat.le_of_lt hlt2) (World.ownsRow.lt HJ7.out k e).1)); have HO9 := Lib.hid ((HO7.out.alloc _).kept_row hgrow2 (fun k e1 e2 => by have q1 := HA2.out k e1; have q2 := (World.ownsRow.lt HJ7.out k e2).1; omega)); obtain ⟨g4, c4, hv2⟩ := HJ9.out.some_ (by simp); have HLN := Lib.hid (show (js ++ [(⟨x1, x2, x3⟩ : Jb)]).length = js.length + 1 by simp); rw [HLN.out] at hv2; subst hv2; clear hown2 hgrow2)
    have HSN := Lib.hid (show ∀ j ∈ js ++ [⟨x1, x2, x3⟩], smallJ j from fun j hj => by
      rcases List.mem_append.1 hj with h | h
      · exact HSJ.out j h
      · simp at h; subst h; exact XB.out)
    have hln : (js ++ [(⟨x1, x2, x3⟩ : Jb)]).length ≤ 61 := by simp; omega
    have HX : Hid (DrewLJ w (.returned (.tuple #[.slice A2 ts.length c2, .slice (some ⟨g4, 0, none⟩) (js.length + 1) c4])) w9) := ⟨A2, c2, ts, g4, c4, js ++ [⟨x1, x2, x3⟩], by rw [HLN.out], hl, HS.out, hln, HSN.out, own_more HO9.out HB.out.size, by rw [HLN.out]; exact HJ9.out.less (by omega), HB9.out⟩
    clear HO9 HJ9 HB9 HSN HLN hln
    go_wp2
    go_ret2
    exact HX.out
  by_cases hy1 : y = 1
  · subst hy1
    clear hy0 hnj HN
    by_cases hj0 : js.length = 0
    · have HX : Hid (DrewLJ w (.returned (.tuple #[.slice A2 ts.length c2, .slice (some ⟨g3, 0, none⟩) js.length c3])) w4) := ⟨A2, c2, ts, g3, c3, js, rfl, hl, HS.out, by omega, HSJ.out, own_more HO4.out HB.out.size, HJ4.out.less (by omega), HB4.out⟩
      have hj1 : ¬ (0 : Int) < (js.length : Int) := by omega
      clear HO4 HJ4 HB4 hj0
      go_wp2
      go_ret2
      exact HX.out
    have hj1 : (0 : Int) < (js.length : Int) := by omega
    clear hj0
    go_wp2_with fail
    refine (pick_any _ _ _ _ _ _ _ (p3 + 1) (js.length : Int) HR4.out (by omega) (by omega)).mono ?_
    rintro e w5 ⟨kk, rfl, k0, k1, _, hr, hgb⟩
    have hk1 := k1 (by omega)
    obtain ⟨k, rfl⟩ : ∃ k : Nat, kk = (k : Int) := ⟨kk.toNat, by omega⟩
    have hk : k < js.length := by omega
    have hlt5 := hr.lt
    have HR5 := Lib.hid hr
    have HG5 := Lib.hid hgb
    clear hr hgb k1
    go_wp2_with fail
    refine (num_any _ _ _ _ _ _ _ (p3 + 1 + 1) _ 3 0 20 (HR5.out.alloc _) (by omega) (by omega) (by omega) (by omega) ?_).mono ?_
    · exact lit_cells_at _ _ _ _ _ _ (by simp) (fun i hi => by rcases (by omega : i = 0 ∨ i = 1 ∨ i = 2) with rfl | rfl | rfl <;> exact ⟨_, rfl, by decide, by decide⟩)
    rintro e w6 ⟨x, rfl, x0, x1, hr, hgb⟩
    have HG6 := Lib.hid (gb_trans (gb_alloc HG5.out _) hgb (fun x e => .inl (by injection e with e; exact e.symm)))
    clear hr hgb
    have HJ6 := Lib.hid (HJ4.out.kept HG6.out (fun k e => by injection e with e; omega))
    have HO6 := Lib.hid (HO4.out.kept HG6.out (fun k e => by injection e with e; omega))
    have HB6 := Lib.hid (below_of_gb HB4.out HG6.out HB4.out.size (Nat.le_refl _))
    have hfz := World.ownsRow.frozenAt HJ6.out
    have hg3 := HJ6.out.cells_
    obtain ⟨j, hj⟩ : ∃ j, js[k]? = some j := ⟨js[k]'hk, List.getElem?_eq_getElem _⟩
    obtain ⟨_, p0, p1, p2⟩ := HJ6.out.reads.2.get hj
    have HJJ := Lib.hid hj
    simp only [Nat.zero_add] at p0 p1 p2
    clear hj HJ4 HO4 HB4 HG5 HR4 HR5
    have HJ8 := Lib.hid (HJ6.out.put k j x HJJ.out)
    have HO8 := Lib.hid (show Own _ w1.heap.size _ ts from ownsRow_setCell_other HO6.out (a := ⟨g3, k * 3 + 2, none⟩) (fun e => by have := HA2.out _ e; dsimp only at this; omega) (.int .i64 x))
    have HB8 := Lib.hid (bl_set HB6.out (p := ⟨g3, k * 3 + 2, none⟩) (by dsimp only; omega) (.int .i64 x))
    have HSN := Lib.hid (show ∀ a ∈ js.set k ⟨j.ta, j.tm, x⟩, smallJ a from fun a ha => by
      rcases List.mem_or_eq_of_mem_set ha with h | h
      · exact HSJ.out a h
      · rw [h]; obtain ⟨q1, q2, q3⟩ := HSJ.out j (List.mem_of_getElem? HJJ.out); exact ⟨q1, q2, by dsimp only; omega⟩)
    have HX : Hid (DrewLJ w (.returned (.tuple #[.slice A2 ts.length c2, .slice (some ⟨g3, 0, none⟩) js.length c3])) (w6.setCell ⟨g3, k * 3 + 2, none⟩ (.int .i64 x))) := ⟨A2, c2, ts, g3, c3, js.set k ⟨j.ta, j.tm, x⟩, by rw [List.length_set], hl, HS.out, by rw [List.length_set]; omega, HSN.out, own_more HO8.out HB.out.size, by rw [List.length_set]; exact HJ8.out.less (by omega), HB8.out⟩
    clear HJ8 HO8 HB8 HSN HG6 HJ6 HO6 HB6
    go_wp2
    go_ret2
    exact HX.out
  have hjx : js.length ≤ 61 := by omega
  clear hnj HN
  by_cases hy2 : y = 2
  · subst hy2
    clear hy0 hy1
    by_cases ht0 : ts.length = 0
    · have HX : Hid (DrewLJ w (.returned (.tuple #[.slice A2 ts.length c2, .slice (some ⟨g3, 0, none⟩) js.length c3])) w4) := ⟨A2, c2, ts, g3, c3, js, rfl, hl, HS.out, hjx, HSJ.out, own_more HO4.out HB.out.size, HJ4.out.less (by omega), HB4.out⟩
      have ht1 : ¬ (0 : Int) < (ts.length : Int) := by omega
      clear HO4 HJ4 HB4 ht0
      go_wp2
      go_ret2
      exact HX.out
    have ht1 : (0 : Int) < (ts.length : Int) := by omega
    obtain ⟨h, hA⟩ : ∃ h, A2 = some ⟨h, 0, none⟩ := by
      rcases HO4.out.2 with ⟨e, e0⟩ | ⟨h, cap, cur, e, _⟩
      · omega
      · injection e with e1 e2 e3; exact ⟨h, e1⟩
    subst hA
    clear ht0
    go_wp2_with fail
    refine (pick_any _ _ _ _ _ _ _ (p3 + 1) (ts.length : Int) HR4.out (by omega) (by omega)).mono ?_
    rintro e w5 ⟨kk, rfl, k0, k1, _, hr, hgb⟩
    have hk1 := k1 (by omega)
    obtain ⟨k, rfl⟩ : ∃ k : Nat, kk = (k : Int) := ⟨kk.toNat, by omega⟩
    have hk : k < ts.length := by omega
    have hlt5 := hr.lt
    have HR5 := Lib.hid hr
    have HG5 := Lib.hid hgb
    have HO5 := Lib.hid (HO4.out.kept hgb (fun k e => by injection e with e; omega))
    clear hr hgb k1
    obtain ⟨t, ht⟩ : ∃ t, ts[k]? = some t := ⟨ts[k], List.getElem?_eq_getElem hk⟩
    have HST := Lib.hid (HS.out t (List.mem_of_getElem? ht))
    obtain ⟨b, o, eA, hbl, c0, c1', c2', c3', c4'⟩ := HO5.out.reads.2.at_ k t ht
    injection eA with eA
    injection eA with eA1 eA2
    subst eA1 eA2
    simp only [Nat.zero_add] at c0 c1' c2' c3' c4'
    have HT := Lib.hid ht
    clear ht
    go_wp2_with fail
    refine (wrong_any _ _ _ _ _ _ _ _ t.lo t.hi t.du t.ev t.cr HR5.out (by omega) HST.out).mono ?_
    rintro e w6 ⟨lo, hi', du, ev, cr, p6, rfl, hs6, hp6, hr, hgb⟩
    clear c0 c1' c2' c3' c4'
    have HR6 := Lib.hid hr
    have HS6 := Lib.hid hs6
    have hlt6 := hr.lt
    have HG6 := Lib.hid (gb_trans HG5.out hgb (fun x e => .inl (by injection e with e; exact e.symm)))
    clear hr hgb hs6
    go_wp2_with fail
    refine (wrong_any _ _ _ _ _ _ _ _ lo hi' du ev cr HR6.out (by omega) HS6.out).mono ?_
    rintro e w7 ⟨lo2, hi2, du2, ev2, cr2, p7, rfl, hs7, hp7, hr, hgb⟩
    have HS7 := Lib.hid hs7
    have HG7 := Lib.hid (gb_trans HG6.out hgb (fun x e => .inl (by injection e with e; exact e.symm)))
    clear hr hgb hs7
    have HO7 := Lib.hid (HO4.out.kept HG7.out (fun k e => by injection e with e; omega))
    have HJ7 := Lib.hid (HJ4.out.kept HG7.out (fun k e => by injection e with e; omega))
    have HB7 := Lib.hid (below_of_gb HB4.out HG7.out HB4.out.size (Nat.le_refl _))
    have hge : w1.heap.size ≤ h := (World.ownsRow.lt HO7.out h rfl).1
    have hlh : h < w2.heap.size := HA2.out h rfl
    have hfz := World.ownsRow.frozenAt HO7.out
    obtain ⟨b, o, eA, hbl, c0, c1', c2', c3', c4'⟩ := HO7.out.reads.2.at_ k t HT.out
    injection eA with eA
    injection eA with eA1 eA2
    subst eA1 eA2
    simp only [Nat.zero_add] at c0 c1' c2' c3' c4'
    clear HO4 HJ4 HB4 HG5 HG6 HO5 HR4 HR5 HR6
    have HO8 := Lib.hid (HO7.out.put k ⟨lo2, hi2, du2, ev2, cr2⟩ hk)
    have HJ8 := Lib.hid (show OwnJ _ w2.heap.size _ js from ownsRow_setCell_below (ownsRow_setCell_below (ownsRow_setCell_below (ownsRow_setCell_below (ownsRow_setCell_below HJ7.out (a := ⟨h, k * 5, none⟩) hlh (.int .i64 lo2)) (a := ⟨h, k * 5 + 1, none⟩) hlh (.int .i64 hi2)) (a := ⟨h, k * 5 + 2, none⟩) hlh (.int .i64 du2)) (a := ⟨h, k * 5 + 3, none⟩) hlh (.int .i64 ev2)) (a := ⟨h, k * 5 + 4, none⟩) hlh (.bool cr2))
    have HB8 := Lib.hid (bl_set (bl_set (bl_set (bl_set (bl_set HB7.out (p := ⟨h, k * 5, none⟩) (by dsimp only; omega) (.int .i64 lo2)) (p := ⟨h, k * 5 + 1, none⟩) (by dsimp only; omega) (.int .i64 hi2)) (p := ⟨h, k * 5 + 2, none⟩) (by dsimp only; omega) (.int .i64 du2)) (p := ⟨h, k * 5 + 3, none⟩) (by dsimp only; omega) (.int .i64 ev2)) (p := ⟨h, k * 5 + 4, none⟩) (by dsimp only; omega) (.bool cr2))
    have HSS : Hid (∀ a ∈ ts.set k ⟨lo2, hi2, du2, ev2, cr2⟩, smallTk a) := mem_set_small HS.out HS7.out
    have HX : Hid (DrewLJ w (.returned (.tuple #[.slice (some ⟨h, 0, none⟩) ts.length c2, .slice (some ⟨g3, 0, none⟩) js.length c3])) (((((w7.setCell ⟨h, k * 5, none⟩ (.int .i64 lo2)).setCell ⟨h, k * 5 + 1, none⟩ (.int .i64 hi2)).setCell ⟨h, k * 5 + 2, none⟩ (.int .i64 du2)).setCell ⟨h, k * 5 + 3, none⟩ (.int .i64 ev2)).setCell ⟨h, k * 5 + 4, none⟩ (.bool cr2))) := ⟨_, c2, ts.set k ⟨lo2, hi2, du2, ev2, cr2⟩, g3, c3, js, by rw [List.length_set], by rw [List.length_set]; exact hl, HSS.out, hjx, HSJ.out, by rw [List.length_set]; exact own_more HO8.out HB.out.size, HJ8.out.less (by omega), HB8.out⟩
    clear HO8 HJ8 HB8 HSS HO7 HJ7 HB7 HG7
    go_wp2_with fail
    go_ret2
    exact HX.out
  have HX : Hid (DrewLJ w (.returned (.tuple #[.slice A2 ts.length c2, .slice (some ⟨g3, 0, none⟩) js.length c3])) w4) := ⟨A2, c2, ts, g3, c3, js, rfl, hl, HS.out, hjx, HSJ.out, own_more HO4.out HB.out.size, HJ4.out.less (by omega), HB4.out⟩
  have b0 : (y == 0) = false := by simp; exact hy0
  have b1 : (y == 1) = false := by simp; exact hy1
  have b2 : (y == 2) = false := by simp; exact hy2
  clear HO4 HJ4 HB4
  go_wp2
  go_ret2
  exact HX.out
end
end Go.Proofs.YtgponahmkjohiabGreatDoor
