/- Contract of the reference's PutJob. Nothing that was there is written. -/
import Derived.Test.YtjondedkgkohfaaSJv
import Derived.Maps.AppendAt
namespace Go.Proofs.Ytjondedkgkohfaa
open Go.RowKit
set_option linter.unusedVariables false

/-- A list of jobs of the call's own that is not nil, and whether there is one. -/
def JsPut (js : List Jb) (b : Bool) (w : World) (e : Ending) (w' : World) : Prop :=
  ∃ (g c : Nat), e = .returned (.tuple #[.slice (some ⟨g, 0, none⟩) js.length c, .bool b]) ∧ OwnJ w' w.heap.size (.slice (some ⟨g, 0, none⟩) js.length c) js ∧ Below w.heap.size w w'
theorem addr_add3 (b o j : Nat) : (⟨b, o, none⟩ : Addr).add j = ⟨b, o + j, none⟩ := by unfold Addr.add; split <;> simp_all
theorem Jbs.cells3 {w : World} {B b o n : Nat} {ts : List Jb} (h : Jbs w B (some ⟨b, o, none⟩) n ts) : ∀ j u, (ts.flatMap Jb.cells)[j]? = some u → w.cell? ((⟨b, o, none⟩ : Addr).add j) = some u := by
  intro j u hu
  have hj : j < ts.length * 3 := by rw [← jcells_length]; exact (List.getElem?_eq_some_iff.1 hu).1
  obtain ⟨t, ht⟩ : ∃ t, ts[j / 3]? = some t := ⟨ts[j / 3]'(by omega), List.getElem?_eq_getElem _⟩
  have hj5 : j = j / 3 * 3 + j % 3 := by omega
  have hm : j % 3 < 3 := Nat.mod_lt _ (by decide)
  have hg := jcells_get ts (j / 3) t ht (j % 3) hm
  rw [← hj5, hu] at hg
  obtain ⟨_, C⟩ := h.get ht
  rw [addr_add3]
  obtain ⟨c0, c1, c2⟩ := C
  rcases (by omega : j % 3 = 0 ∨ j % 3 = 1 ∨ j % 3 = 2) with h | h | h <;> rw [h] at hg hj5 <;> simp only [Jb.cells] at hg <;> (injection hg with hg; subst hg)
  · rw [show o + j = o + j / 3 * 3 by omega]; exact c0
  · rw [show o + j = o + j / 3 * 3 + 1 by omega]; exact c1
  · rw [show o + j = o + j / 3 * 3 + 2 by omega]; exact c2
theorem OwnJ.some_ {w : World} {B : Nat} {v : Value} {js : List Jb} (h : OwnJ w B v js) (hn : 0 < js.length) : ∃ g c, v = .slice (some ⟨g, 0, none⟩) js.length c := by
  rcases h.2 with ⟨e, h0⟩ | ⟨g, cap, cur, e, _⟩
  · omega
  · exact ⟨g, cap, e⟩
set_option maxRecDepth 100000 in
set_option maxHeartbeats 8000000 in
theorem sPut_is (w : World) (A : Option Addr) (n c : Nat) (ts : List Tk) (h : Tks w w.heap.size A n ts) (hn : n ≤ 1048576) (bj oj m c2 : Nat) (js : List Jb) (h2 : Jbs w w.heap.size (some ⟨bj, oj, none⟩) m js) (hc : m ≤ c2) (j : Jb) (b : Bool) (hb : putB ts js j = b) :
    Calls Try.prog 96 #[.slice A n c, .slice (some ⟨bj, oj, none⟩) m c2, j.val] w (JsPut (putV ts js j) b w) := by
  obtain ⟨i0, hi, hz0, hz1, hz2⟩ := info_parts info_job
  have H := Lib.hid h
  have J := Lib.hid h2
  have HM := Lib.hid h2.len
  clear h h2
  obtain ⟨ta, tm, ne⟩ := j
  cases h1 : jobsB ts js
  · obtain rfl : b = false := by rw [← hb]; unfold putB; rw [h1]; rfl
    have hpv : putV ts js ⟨ta, tm, ne⟩ = [] := by unfold putV; rw [hb]; rfl
    rw [hpv]
    have HJ1 := Lib.hid h1
    clear hb h1 hpv
    unfold Jb.val
    go_enter Try.func96, Try.ntmps96
    go_wp2_with fail
    refine (sJobs_is _ A n c ts ((H.out.below (bl_alloc (Below.refl w.heap.size w) _)).more (by simp)) hn _ m c2 js ((J.out.below (bl_alloc (Below.refl w.heap.size w) _)).more (by simp)) false HJ1.out).mono ?_
    rintro e w1 ⟨rfl, hb⟩
    have HB1 := Lib.hid (show Below w.heap.size w w1 from bl_trans (bl_alloc (Below.refl w.heap.size w) _) hb)
    have hs1 := HB1.out.size
    clear hb
    go_wp2
    refine bodyPost_ret (v := .tuple #[.slice (some ⟨w1.heap.size, 0, none⟩) 0 0, .bool false]) (by simp [results, Try.results96, go_sem]) rfl ⟨w1.heap.size, 0, rfl, (OwnJ.empty w1).less hs1, bl_alloc HB1.out _⟩
  have hm60 : m ≤ 60 := by have := jobs_len h1; rw [HM.out] at this; exact this
  have HJ1 := Lib.hid h1
  have HR := Lib.hid hb
  clear h1 hb
  unfold Jb.val
  go_enter Try.func96, Try.ntmps96
  go_wp2_with fail
  refine (sJobs_is _ A n c ts ((H.out.below (bl_alloc (Below.refl w.heap.size w) _)).more (by simp)) hn _ m c2 js ((J.out.below (bl_alloc (Below.refl w.heap.size w) _)).more (by simp)) true HJ1.out).mono ?_
  rintro e w1 ⟨rfl, hb⟩
  have HB1 := Lib.hid (show Below w.heap.size w w1 from bl_trans (bl_alloc (Below.refl w.heap.size w) _) hb)
  have BJ1 := Lib.hid ((Blk.new w 35 #[.int .i64 ta, .int .i64 tm, .int .i64 ne]).below hb (by simp))
  clear hb
  go_wp2
  go_loopw [8] (fun i wr => ∃ q : Nat, q ≤ m ∧ i = .int .i64 q ∧ Hid (∀ a ∈ js.drop q, befB ⟨ta, tm, ne⟩ a = true) ∧ Hid (Blk wr w.heap.size 35 #[.int .i64 ta, .int .i64 tm, .int .i64 ne]) ∧ Hid (Below w.heap.size w wr)) (fun i _ => (intOf i).toNat)
  case atStart => exact ⟨m, Nat.le_refl _, rfl, Lib.hid (by intro a ha; rw [List.drop_of_length_le (by rw [HM.out]; omega)] at ha; simp at ha), BJ1, HB1⟩
  case round =>
    obtain ⟨q, hq, rfl, HD, BJ, HB⟩ := hrel
    obtain ⟨w4, hw4⟩ : ∃ W, W = wr := ⟨_, rfl⟩
    subst hw4
    clear BJ1 HB1
    have hgl : w.heap.size < w4.heap.size := BJ.out.lt
    by_cases hq0 : q = 0
    · subst hq0
      have HP := Lib.hid (show putAt ⟨ta, tm, ne⟩ js = 0 from putAt_is (Nat.zero_le _) HD.out (fun i hi => by omega))
      clear HD
      have cj := BJ.out.cell
      go_wp2_with fail
      refine wp_region_held_drew (S := (fun W => True)) (by kernel_rfl) (by trivial) (fun hHeld0 => ?_)
      refine wpAnyH_take (i := 0) (oi := { dst := some 17, op := Go.Op.move (Go.Operand.tmp 8), type := 3, pos := "l6_jobs.go:158", after := #[], guard := none }) (v := ?vu1x0) rfl (by kernel_rfl) (by kernel_rfl) (by kernel_rfl) (fun _ _ _ h => h) (Or.inl ⟨by rfl, ?hyu1x0⟩) hHeld0 ?restu1x0
      case hyu1x0 => first | (intro w hSw; (try dsimp only at hSw); go_simp; done) | (intro w hSw; (try dsimp only at hSw); go_simp; with_reducible rfl)
      (try simp only [Act.put, List.setIfInBounds_toArray, List.set_cons_zero, List.set_cons_succ])
      refine wpAnyH_take (i := 1) (oi := { dst := some 18, op := Go.Op.binOp Go.BinOp.gtr 3 (Go.Operand.tmp 17) (Go.Operand.const (Go.Value.int Go.IntKind.i64 0)) 3, type := 4, pos := "l6_jobs.go:158", after := #[{ on := 0, ground := Go.Ground.data }], guard := none }) (v := ?vu1x1) rfl (by kernel_rfl) (by kernel_rfl) (by kernel_rfl) (fun _ _ _ h => h) (Or.inl ⟨by rfl, ?hyu1x1⟩) hHeld0 ?restu1x1
      case hyu1x1 => first | (intro w hSw; (try dsimp only at hSw); go_simp; done) | (intro w hSw; (try dsimp only at hSw); go_simp; with_reducible rfl)
      (try simp only [Act.put, List.setIfInBounds_toArray, List.set_cons_zero, List.set_cons_succ])
      refine wpAnyH_take (i := 2) (oi := { dst := some 19, op := Go.Op.move (Go.Operand.tmp 18), type := 4, pos := "l6_jobs.go:158", after := #[{ on := 1, ground := Go.Ground.data }], guard := none }) (v := ?vu1x2) rfl (by kernel_rfl) (by kernel_rfl) (by kernel_rfl) (fun _ _ _ h => h) (Or.inl ⟨by rfl, ?hyu1x2⟩) hHeld0 ?restu1x2
      case hyu1x2 => first | (intro w hSw; (try dsimp only at hSw); go_simp; done) | (intro w hSw; (try dsimp only at hSw); go_simp; with_reducible rfl)
      (try simp only [Act.put, List.setIfInBounds_toArray, List.set_cons_zero, List.set_cons_succ])
      refine wpAnyH_take (i := 3) (oi := { dst := some 20, op := Go.Op.load 35 (Go.Operand.tmp 5), type := 35, pos := "l6_jobs.go:158", after := #[{ on := 2, ground := Go.Ground.guard }], guard := some (2, true) }) (v := undef) rfl (by kernel_rfl) (by kernel_rfl) (by kernel_rfl) (fun _ _ _ h => h) (Or.inr ⟨by rfl, by rfl⟩) hHeld0 ?_
      (try simp only [Act.put, List.setIfInBounds_toArray, List.set_cons_zero, List.set_cons_succ])
      refine wpAnyH_take (i := 4) (oi := { dst := some 21, op := Go.Op.move (Go.Operand.tmp 1), type := 24, pos := "l6_jobs.go:158", after := #[{ on := 2, ground := Go.Ground.guard }], guard := some (2, true) }) (v := undef) rfl (by kernel_rfl) (by kernel_rfl) (by kernel_rfl) (fun _ _ _ h => h) (Or.inr ⟨by rfl, by rfl⟩) hHeld0 ?_
      (try simp only [Act.put, List.setIfInBounds_toArray, List.set_cons_zero, List.set_cons_succ])
      refine wpAnyH_take (i := 5) (oi := { dst := some 22, op := Go.Op.move (Go.Operand.tmp 8), type := 3, pos := "l6_jobs.go:158", after := #[{ on := 2, ground := Go.Ground.guard }], guard := some (2, true) }) (v := undef) rfl (by kernel_rfl) (by kernel_rfl) (by kernel_rfl) (fun _ _ _ h => h) (Or.inr ⟨by rfl, by rfl⟩) hHeld0 ?_
      (try simp only [Act.put, List.setIfInBounds_toArray, List.set_cons_zero, List.set_cons_succ])
      refine wpAnyH_take (i := 6) (oi := { dst := some 23, op := Go.Op.binOp Go.BinOp.sub 3 (Go.Operand.tmp 22) (Go.Operand.const (Go.Value.int Go.IntKind.i64 1)) 3, type := 3, pos := "l6_jobs.go:158", after := #[{ on := 5, ground := Go.Ground.data }, { on := 2, ground := Go.Ground.guard }], guard := some (2, true) }) (v := undef) rfl (by kernel_rfl) (by kernel_rfl) (by kernel_rfl) (fun _ _ _ h => h) (Or.inr ⟨by rfl, by rfl⟩) hHeld0 ?_
      (try simp only [Act.put, List.setIfInBounds_toArray, List.set_cons_zero, List.set_cons_succ])
      refine wpAnyH_take (i := 7) (oi := { dst := some 24, op := Go.Op.indexAddr 24 (Go.Operand.tmp 21) (Go.Operand.tmp 23), type := 0, pos := "l6_jobs.go:158", after := #[{ on := 4, ground := Go.Ground.data }, { on := 6, ground := Go.Ground.data }, { on := 2, ground := Go.Ground.guard }], guard := some (2, true) }) (v := undef) rfl (by kernel_rfl) (by kernel_rfl) (by kernel_rfl) (fun _ _ _ h => h) (Or.inr ⟨by rfl, by rfl⟩) hHeld0 ?_
      (try simp only [Act.put, List.setIfInBounds_toArray, List.set_cons_zero, List.set_cons_succ])
      refine wpAnyH_take (i := 8) (oi := { dst := some 25, op := Go.Op.load 35 (Go.Operand.tmp 24), type := 35, pos := "l6_jobs.go:158", after := #[{ on := 7, ground := Go.Ground.data }, { on := 2, ground := Go.Ground.guard }], guard := some (2, true) }) (v := undef) rfl (by kernel_rfl) (by kernel_rfl) (by kernel_rfl) (fun _ _ _ h => h) (Or.inr ⟨by rfl, by rfl⟩) hHeld0 ?_
      (try simp only [Act.put, List.setIfInBounds_toArray, List.set_cons_zero, List.set_cons_succ])
      refine wpAnyH_take (i := 9) (oi := { dst := some 26, op := Go.Op.call { callee := Go.Callee.value (Go.Operand.func 81), args := #[Go.Operand.tmp 20, Go.Operand.tmp 25], argTypes := #[35, 35] }, type := 4, pos := "l6_jobs.go:158", after := #[{ on := 3, ground := Go.Ground.data }, { on := 8, ground := Go.Ground.data }, { on := 2, ground := Go.Ground.chain }, { on := 2, ground := Go.Ground.guard }], guard := some (2, true) }) (v := undef) rfl (by kernel_rfl) (by kernel_rfl) (by kernel_rfl) (fun _ _ _ h => h) (Or.inr ⟨by rfl, by rfl⟩) hHeld0 ?_
      (try simp only [Act.put, List.setIfInBounds_toArray, List.set_cons_zero, List.set_cons_succ])
      refine wpAnyH_take (i := 10) (oi := { dst := some 27, op := Go.Op.pick (Go.Operand.tmp 19) (Go.Operand.tmp 26) (Go.Operand.const (Go.Value.bool false)), type := 4, pos := "l6_jobs.go:158", after := #[{ on := 2, ground := Go.Ground.data }, { on := 9, ground := Go.Ground.data }], guard := none }) (v := ?vu1x10) rfl (by kernel_rfl) (by kernel_rfl) (by kernel_rfl) (fun _ _ _ h => h) (Or.inl ⟨by rfl, ?hyu1x10⟩) hHeld0 ?restu1x10
      case hyu1x10 => first | (intro w hSw; (try dsimp only at hSw); go_simp; done) | (intro w hSw; (try dsimp only at hSw); go_simp; with_reducible rfl)
      (try simp only [Act.put, List.setIfInBounds_toArray, List.set_cons_zero, List.set_cons_succ])
      refine wpAnyH_done (by kernel_rfl) ?_ _
      have HT := Lib.hid (show Below w.heap.size w w4.drew from Below.drew HB.out)
      have BT := Lib.hid (show Blk w4.drew w.heap.size 35 #[.int .i64 ta, .int .i64 tm, .int .i64 ne] from BJ.out)
      clear cj HB BJ hgl
      generalize w4.drew = w7 at *
      have hpl : putL ⟨ta, tm, ne⟩ js = js.take 0 ++ ⟨ta, tm, ne⟩ :: js.drop 0 := by unfold putL; rw [HP.out]
      have hplen : (putL ⟨ta, tm, ne⟩ js).length = m + 1 := by rw [putL_len, HM.out]
      have htl : (js.take 0).length = 0 := by rw [List.length_take, HM.out]; omega
      have hdl : (js.drop 0).length = m := by rw [List.drop_zero, HM.out]
      have HPUT := Lib.hid hpl
      have HPLEN := Lib.hid hplen
      have HTL := Lib.hid htl
      have HDL := Lib.hid hdl
      clear hpl hplen htl hdl HP
      have hx7 : w.heap.size < w7.heap.size := BT.out.lt
      have hw7 : w.heap.size ≤ w7.heap.size := HT.out.size
      have qc : (((0 : Nat) : Int)) ≤ (c2 : Int) := by omega
      have qm : (((0 : Nat) : Int)) ≤ (m : Int) := by omega
      have qz : (0 : Int) ≤ (((0 : Nat) : Int)) := by omega
      
      by_cases hcq : c2 = 0
      · have hcq2 : 0 = c2 := hcq.symm
        subst hcq2
        have HDN := Lib.hid (show js.drop 0 = [] from List.drop_of_length_le (by rw [HM.out]; omega))
        go_wp2_with (first
          | (at_builtin; refine wpList_append_own _ rfl (.tmp 30) (.tmp 33) 24 rfl w7.heap.size 35 i0 _ 3 24 Try.underlying24 hi hz0 hz1 hz2 rfl (by decide) _ 0 [] rfl (OwnJ.empty w7) ⟨bj, oj, none⟩ 0 0 ((js.take 0).flatMap Jb.cells) rfl (by rw [jcells_length, HTL.out]) (Jbs.cells3 (((J.out.below (bl_alloc HT.out _)).take (by omega : 0 ≤ m)))) (jcells_one _) (by unfold maxLen; omega) (by omega) (by simp) ?_; intro v1 w8 hown1 hgrow1 _; have HO1 := Lib.hid (show OwnJ w8 w7.heap.size v1 (js.take 0) from by unfold OwnJ; rw [HTL.out]; simpa using hown1); have HB8 := Lib.hid (show Below w7.heap.size w7 w8 from (bl_alloc (Below.refl _ _) _).grown hgrow1 (by simp) (fun x e => (World.ownsRow.lt (OwnJ.empty w7) x e).1)); have BJ8 := Lib.hid (BT.out.below HB8.out hx7); have cj := BJ8.out.cell; obtain ⟨A3, c3, hv1⟩ := HO1.out.form; rw [HTL.out] at hv1; subst hv1; clear hown1 hgrow1)
          | (at_builtin; refine wpList_append_own _ rfl (.tmp 35) (.tmp 37) 24 rfl w7.heap.size 35 i0 _ 3 24 Try.underlying24 hi hz0 hz1 hz2 rfl (by decide) _ 0 ((js.take 0).flatMap Jb.cells) rfl (by have hh := HO1.out.alloc (.cells #[.int .i64 ta, .int .i64 tm, .int .i64 ne] 35); unfold OwnJ at hh; rw [HTL.out] at hh; exact hh) ⟨w8.heap.size, 0, none⟩ 1 1 (Jb.cells ⟨ta, tm, ne⟩) rfl rfl (cell_new3 _ ⟨ta, tm, ne⟩ _) (by intro u hu; exact jcells_one [⟨ta, tm, ne⟩] u (by simpa using hu)) (by unfold maxLen; omega) (by omega) (by have := HB8.out.size; simp; omega) ?_; intro v2 w9 hown2 hgrow2 _; have HO2 := Lib.hid (show OwnJ w9 w7.heap.size v2 (js.take 0 ++ [⟨ta, tm, ne⟩]) from OwnJ.snoc (by rw [HTL.out]; exact hown2)); have HB9 := Lib.hid ((bl_alloc HB8.out _).grown hgrow2 (by have := HB8.out.size; simp; omega) (fun k e => (World.ownsRow.lt HO1.out k e).1)); have HL2 := Lib.hid (show (js.take 0 ++ [(⟨ta, tm, ne⟩ : Jb)]).length = 1 by rw [List.length_append, HTL.out]; rfl); obtain ⟨g4, c4, hv2⟩ := HO2.out.some_ (by rw [HL2.out]; omega); rw [HL2.out] at hv2; subst hv2; have hw9 : w7.heap.size ≤ w9.heap.size := HB9.out.size; clear hown2 hgrow2 cj)
          | (at_builtin; refine wpList_append_own _ rfl (.tmp 39) (.tmp 42) 24 rfl w7.heap.size 35 i0 _ 3 24 Try.underlying24 hi hz0 hz1 hz2 rfl (by decide) _ 1 ((js.take 0 ++ [(⟨ta, tm, ne⟩ : Jb)]).flatMap Jb.cells) rfl (by have hh := HO2.out; unfold OwnJ at hh; rw [HL2.out] at hh; exact hh) ⟨bj, oj, none⟩ 0 0 ([] : List Value) rfl rfl (by intro j u hu; simp at hu) (by intro u hu; simp at hu) (by unfold maxLen; omega) (by omega) hw9 ?_; intro v3 w10 hown3 hgrow3 _; have HO3 := Lib.hid (show OwnJ w10 w7.heap.size v3 (putL ⟨ta, tm, ne⟩ js) from by rw [HPUT.out, HDN.out]; unfold OwnJ; rw [HL2.out]; simpa using hown3); have HB10 := Lib.hid (HB9.out.grown hgrow3 hw9 (fun k e => (World.ownsRow.lt HO2.out k e).1)); obtain ⟨g5, c5, hv3⟩ := HO3.out.some_ (by rw [HPLEN.out]; omega); rw [HPLEN.out] at hv3; subst hv3; clear hown3 hgrow3))
        have HT10 := Lib.hid (bl_trans HT.out HB10.out)
        have hrd := HO3.out.reads.2
        have HRD := Lib.hid hrd
        clear hrd
        cases hjb : jobsB ts (putL ⟨ta, tm, ne⟩ js)
        · have HJB := Lib.hid hjb
          obtain rfl : b = false := by rw [← HR.out]; unfold putB; rw [hjb]; simp
          have hpv : putV ts js ⟨ta, tm, ne⟩ = [] := by unfold putV; rw [HR.out]; rfl
          have HPV := Lib.hid hpv
          clear hjb hpv
          go_wp2_with fail
          refine (sJobs_is _ A n c ts ((H.out.below HT10.out).more HT10.out.size) hn _ (m + 1) c5 (putL ⟨ta, tm, ne⟩ js) HRD.out false HJB.out).mono ?_
          rintro e w11 ⟨rfl, hb⟩
          have HT11 := Lib.hid (bl_trans HT10.out hb)
          have hs11 := HT11.out.size
          clear hb
          go_wp2
          refine bodyPost_ret (v := .tuple #[.slice (some ⟨w11.heap.size, 0, none⟩) 0 0, .bool false]) (by simp [results, Try.results96, go_sem]) rfl (by rw [HPV.out]; exact ⟨w11.heap.size, 0, rfl, (OwnJ.empty w11).less hs11, bl_alloc HT11.out _⟩)
        · have HJB := Lib.hid hjb
          obtain rfl : b = true := by rw [← HR.out]; unfold putB; rw [hjb, HJ1.out]; rfl
          have hpv : putV ts js ⟨ta, tm, ne⟩ = putL ⟨ta, tm, ne⟩ js := by unfold putV; rw [HR.out]; rfl
          have HPV := Lib.hid hpv
          clear hjb hpv
          go_wp2_with fail
          refine (sJobs_is _ A n c ts ((H.out.below HT10.out).more HT10.out.size) hn _ (m + 1) c5 (putL ⟨ta, tm, ne⟩ js) HRD.out true HJB.out).mono ?_
          rintro e w11 ⟨rfl, hb⟩
          have HT11 := Lib.hid (bl_trans HT10.out hb)
          have HO11 := Lib.hid ((HO3.out.below hb).less hw7)
          clear hb
          go_wp2
          refine bodyPost_ret (v := .tuple #[.slice (some ⟨g5, 0, none⟩) (putL ⟨ta, tm, ne⟩ js).length c5, .bool true]) (by simp [results, Try.results96, go_sem, HPLEN.out]) rfl (by rw [HPV.out]; exact ⟨g5, c5, rfl, by have hh := HO11.out; rw [← HPLEN.out] at hh; exact hh, HT11.out⟩)
      · have k1 : ¬ ((0 : Nat) : Int) = (c2 : Int) := by omega
        have k2 : (((0 : Nat) : Int) == (c2 : Int)) = false := by rw [beq_eq_false_iff_ne]; exact k1
        have k3 : ¬ 0 = c2 := fun e => hcq e.symm
        go_wp2_with (first
          | (at_builtin; refine wpList_append_own _ rfl (.tmp 30) (.tmp 33) 24 rfl w7.heap.size 35 i0 _ 3 24 Try.underlying24 hi hz0 hz1 hz2 rfl (by decide) _ 0 [] rfl (OwnJ.empty w7) ⟨bj, oj, none⟩ 0 c2 ((js.take 0).flatMap Jb.cells) rfl (by rw [jcells_length, HTL.out]) (Jbs.cells3 (((J.out.below (bl_alloc HT.out _)).take (by omega : 0 ≤ m)))) (jcells_one _) (by unfold maxLen; omega) (by omega) (by simp) ?_; intro v1 w8 hown1 hgrow1 _; have HO1 := Lib.hid (show OwnJ w8 w7.heap.size v1 (js.take 0) from by unfold OwnJ; rw [HTL.out]; simpa using hown1); have HB8 := Lib.hid (show Below w7.heap.size w7 w8 from (bl_alloc (Below.refl _ _) _).grown hgrow1 (by simp) (fun x e => (World.ownsRow.lt (OwnJ.empty w7) x e).1)); have BJ8 := Lib.hid (BT.out.below HB8.out hx7); have cj := BJ8.out.cell; obtain ⟨A3, c3, hv1⟩ := HO1.out.form; rw [HTL.out] at hv1; subst hv1; clear hown1 hgrow1)
          | (at_builtin; refine wpList_append_own _ rfl (.tmp 35) (.tmp 37) 24 rfl w7.heap.size 35 i0 _ 3 24 Try.underlying24 hi hz0 hz1 hz2 rfl (by decide) _ 0 ((js.take 0).flatMap Jb.cells) rfl (by have hh := HO1.out.alloc (.cells #[.int .i64 ta, .int .i64 tm, .int .i64 ne] 35); unfold OwnJ at hh; rw [HTL.out] at hh; exact hh) ⟨w8.heap.size, 0, none⟩ 1 1 (Jb.cells ⟨ta, tm, ne⟩) rfl rfl (cell_new3 _ ⟨ta, tm, ne⟩ _) (by intro u hu; exact jcells_one [⟨ta, tm, ne⟩] u (by simpa using hu)) (by unfold maxLen; omega) (by omega) (by have := HB8.out.size; simp; omega) ?_; intro v2 w9 hown2 hgrow2 _; have HO2 := Lib.hid (show OwnJ w9 w7.heap.size v2 (js.take 0 ++ [⟨ta, tm, ne⟩]) from OwnJ.snoc (by rw [HTL.out]; exact hown2)); have HB9 := Lib.hid ((bl_alloc HB8.out _).grown hgrow2 (by have := HB8.out.size; simp; omega) (fun k e => (World.ownsRow.lt HO1.out k e).1)); have HL2 := Lib.hid (show (js.take 0 ++ [(⟨ta, tm, ne⟩ : Jb)]).length = 1 by rw [List.length_append, HTL.out]; rfl); obtain ⟨g4, c4, hv2⟩ := HO2.out.some_ (by rw [HL2.out]; omega); rw [HL2.out] at hv2; subst hv2; have hw9 : w7.heap.size ≤ w9.heap.size := HB9.out.size; clear hown2 hgrow2 cj)
          | (at_builtin; refine wpList_append_own _ rfl (.tmp 39) (.tmp 42) 24 rfl w7.heap.size 35 i0 _ 3 24 Try.underlying24 hi hz0 hz1 hz2 rfl (by decide) _ 1 ((js.take 0 ++ [(⟨ta, tm, ne⟩ : Jb)]).flatMap Jb.cells) rfl (by have hh := HO2.out; unfold OwnJ at hh; rw [HL2.out] at hh; exact hh) ⟨bj, oj, none⟩ m c2 ((js.drop 0).flatMap Jb.cells) rfl (by rw [jcells_length, HDL.out]) (Jbs.cells3 (show Jbs w9 w.heap.size (some ⟨bj, oj, none⟩) m (js.drop 0) from J.out.below (bl_trans HT.out HB9.out))) (jcells_one _) (by unfold maxLen; omega) (by omega) hw9 ?_; intro v3 w10 hown3 hgrow3 _; have HO3 := Lib.hid (show OwnJ w10 w7.heap.size v3 (putL ⟨ta, tm, ne⟩ js) from by unfold OwnJ; rw [HPLEN.out, HPUT.out, show js.take 0 ++ (⟨ta, tm, ne⟩ : Jb) :: js.drop 0 = (js.take 0 ++ [⟨ta, tm, ne⟩]) ++ js.drop 0 by simp, List.flatMap_append]; rw [show 1 + m = m + 1 by omega] at hown3; exact hown3); have HB10 := Lib.hid (HB9.out.grown hgrow3 hw9 (fun k e => (World.ownsRow.lt HO2.out k e).1)); obtain ⟨g5, c5, hv3⟩ := HO3.out.some_ (by rw [HPLEN.out]; omega); rw [HPLEN.out] at hv3; subst hv3; clear hown3 hgrow3))
        have HT10 := Lib.hid (bl_trans HT.out HB10.out)
        have hrd := HO3.out.reads.2
        have HRD := Lib.hid hrd
        clear hrd
        cases hjb : jobsB ts (putL ⟨ta, tm, ne⟩ js)
        · have HJB := Lib.hid hjb
          obtain rfl : b = false := by rw [← HR.out]; unfold putB; rw [hjb]; simp
          have hpv : putV ts js ⟨ta, tm, ne⟩ = [] := by unfold putV; rw [HR.out]; rfl
          have HPV := Lib.hid hpv
          clear hjb hpv
          go_wp2_with fail
          refine (sJobs_is _ A n c ts ((H.out.below HT10.out).more HT10.out.size) hn _ (m + 1) c5 (putL ⟨ta, tm, ne⟩ js) HRD.out false HJB.out).mono ?_
          rintro e w11 ⟨rfl, hb⟩
          have HT11 := Lib.hid (bl_trans HT10.out hb)
          have hs11 := HT11.out.size
          clear hb
          go_wp2
          refine bodyPost_ret (v := .tuple #[.slice (some ⟨w11.heap.size, 0, none⟩) 0 0, .bool false]) (by simp [results, Try.results96, go_sem]) rfl (by rw [HPV.out]; exact ⟨w11.heap.size, 0, rfl, (OwnJ.empty w11).less hs11, bl_alloc HT11.out _⟩)
        · have HJB := Lib.hid hjb
          obtain rfl : b = true := by rw [← HR.out]; unfold putB; rw [hjb, HJ1.out]; rfl
          have hpv : putV ts js ⟨ta, tm, ne⟩ = putL ⟨ta, tm, ne⟩ js := by unfold putV; rw [HR.out]; rfl
          have HPV := Lib.hid hpv
          clear hjb hpv
          go_wp2_with fail
          refine (sJobs_is _ A n c ts ((H.out.below HT10.out).more HT10.out.size) hn _ (m + 1) c5 (putL ⟨ta, tm, ne⟩ js) HRD.out true HJB.out).mono ?_
          rintro e w11 ⟨rfl, hb⟩
          have HT11 := Lib.hid (bl_trans HT10.out hb)
          have HO11 := Lib.hid ((HO3.out.below hb).less hw7)
          clear hb
          go_wp2
          refine bodyPost_ret (v := .tuple #[.slice (some ⟨g5, 0, none⟩) (putL ⟨ta, tm, ne⟩ js).length c5, .bool true]) (by simp [results, Try.results96, go_sem, HPLEN.out]) rfl (by rw [HPV.out]; exact ⟨g5, c5, rfl, by have hh := HO11.out; rw [← HPLEN.out] at hh; exact hh, HT11.out⟩)
    obtain ⟨r, hr⟩ : ∃ r, q = r + 1 := ⟨q - 1, by omega⟩
    obtain ⟨pj, hpj⟩ : ∃ j, js[r]? = some j := ⟨js[r]'(by rw [HM.out]; omega), List.getElem?_eq_getElem _⟩
    obtain ⟨hbj, p0, p1, p2⟩ := (J.out.below HB.out).get hpj
    have hbj4 : bj < w4.heap.size := by omega
    have HPJ := Lib.hid hpj
    have HQR := Lib.hid hr
    have q0 : (0 : Int) < (q : Int) := by omega
    have q00 : 0 < q := by omega
    have r0 : (0 : Int) ≤ (r : Int) := by omega
    have r1 : (r : Int) < (m : Int) := by omega
    have r2 : IntKind.i64.wrap ((q : Int) - 1) = (r : Int) := by rw [IntWalk.i64_in _ (by omega)]; omega
    clear hpj hr
    obtain ⟨pa, pm, pe⟩ := pj
    dsimp only at p0 p1 p2
    have x0 := BJ.out.cell 0
    have x1 := BJ.out.cell 1
    have x2 := BJ.out.cell 2
    have HC := Lib.hid (And.intro x0 (And.intro x1 (And.intro x2 (And.intro p0 (And.intro p1 p2)))))
    clear x0 x1 x2 p0 p1 p2
    cases hbf : befB ⟨ta, tm, ne⟩ ⟨pa, pm, pe⟩
    · have HBF := Lib.hid hbf
      have HP := Lib.hid (show putAt ⟨ta, tm, ne⟩ js = q from putAt_is (by rw [HM.out]; exact hq) HD.out (fun i hi a ha => by
        have hir : i = r := by have := HQR.out; omega
        rw [hir, HPJ.out] at ha
        rw [← Option.some.inj ha]
        exact HBF.out))
      clear hbf HD
      go_wp2_with fail
      refine wp_region_held_drew (S := (fun W => W.cell? ⟨w.heap.size, 0, none⟩ = some (.int .i64 ta) ∧ W.cell? ⟨w.heap.size, 1, none⟩ = some (.int .i64 tm) ∧ W.cell? ⟨w.heap.size, 2, none⟩ = some (.int .i64 ne) ∧ W.cell? ⟨bj, oj + r * 3, none⟩ = some (.int .i64 pa) ∧ W.cell? ⟨bj, oj + r * 3 + 1, none⟩ = some (.int .i64 pm) ∧ W.cell? ⟨bj, oj + r * 3 + 2, none⟩ = some (.int .i64 pe))) (by kernel_rfl) (by exact HC.out) (fun hHeld0 => ?_)
      refine wpAnyH_take (i := 0) (oi := { dst := some 17, op := Go.Op.move (Go.Operand.tmp 8), type := 3, pos := "l6_jobs.go:158", after := #[], guard := none }) (v := ?vu2x0) rfl (by kernel_rfl) (by kernel_rfl) (by kernel_rfl) (fun _ _ _ h => h) (Or.inl ⟨by rfl, ?hyu2x0⟩) hHeld0 ?restu2x0
      case hyu2x0 => first | (intro w hSw; (try dsimp only at hSw); go_simp; done) | (intro w hSw; (try dsimp only at hSw); go_simp; with_reducible rfl)
      (try simp only [Act.put, List.setIfInBounds_toArray, List.set_cons_zero, List.set_cons_succ])
      refine wpAnyH_take (i := 1) (oi := { dst := some 18, op := Go.Op.binOp Go.BinOp.gtr 3 (Go.Operand.tmp 17) (Go.Operand.const (Go.Value.int Go.IntKind.i64 0)) 3, type := 4, pos := "l6_jobs.go:158", after := #[{ on := 0, ground := Go.Ground.data }], guard := none }) (v := ?vu2x1) rfl (by kernel_rfl) (by kernel_rfl) (by kernel_rfl) (fun _ _ _ h => h) (Or.inl ⟨by rfl, ?hyu2x1⟩) hHeld0 ?restu2x1
      case hyu2x1 => first | (intro w hSw; (try dsimp only at hSw); go_simp; done) | (intro w hSw; (try dsimp only at hSw); go_simp; with_reducible rfl)
      (try simp only [Act.put, List.setIfInBounds_toArray, List.set_cons_zero, List.set_cons_succ])
      refine wpAnyH_take (i := 2) (oi := { dst := some 19, op := Go.Op.move (Go.Operand.tmp 18), type := 4, pos := "l6_jobs.go:158", after := #[{ on := 1, ground := Go.Ground.data }], guard := none }) (v := ?vu2x2) rfl (by kernel_rfl) (by kernel_rfl) (by kernel_rfl) (fun _ _ _ h => h) (Or.inl ⟨by rfl, ?hyu2x2⟩) hHeld0 ?restu2x2
      case hyu2x2 => first | (intro w hSw; (try dsimp only at hSw); go_simp; done) | (intro w hSw; (try dsimp only at hSw); go_simp; with_reducible rfl)
      (try simp only [Act.put, List.setIfInBounds_toArray, List.set_cons_zero, List.set_cons_succ])
      refine wpAnyH_take (i := 3) (oi := { dst := some 20, op := Go.Op.load 35 (Go.Operand.tmp 5), type := 35, pos := "l6_jobs.go:158", after := #[{ on := 2, ground := Go.Ground.guard }], guard := some (2, true) }) (v := ?vu2x3) rfl (by kernel_rfl) (by kernel_rfl) (by kernel_rfl) (fun _ _ _ h => h) (Or.inl ⟨by rfl, ?hyu2x3⟩) hHeld0 ?restu2x3
      case hyu2x3 => first | (intro w hSw; (try dsimp only at hSw); go_simp; done) | (intro w hSw; (try dsimp only at hSw); go_simp; with_reducible rfl)
      (try simp only [Act.put, List.setIfInBounds_toArray, List.set_cons_zero, List.set_cons_succ])
      refine wpAnyH_take (i := 4) (oi := { dst := some 21, op := Go.Op.move (Go.Operand.tmp 1), type := 24, pos := "l6_jobs.go:158", after := #[{ on := 2, ground := Go.Ground.guard }], guard := some (2, true) }) (v := ?vu2x4) rfl (by kernel_rfl) (by kernel_rfl) (by kernel_rfl) (fun _ _ _ h => h) (Or.inl ⟨by rfl, ?hyu2x4⟩) hHeld0 ?restu2x4
      case hyu2x4 => first | (intro w hSw; (try dsimp only at hSw); go_simp; done) | (intro w hSw; (try dsimp only at hSw); go_simp; with_reducible rfl)
      (try simp only [Act.put, List.setIfInBounds_toArray, List.set_cons_zero, List.set_cons_succ])
      refine wpAnyH_take (i := 5) (oi := { dst := some 22, op := Go.Op.move (Go.Operand.tmp 8), type := 3, pos := "l6_jobs.go:158", after := #[{ on := 2, ground := Go.Ground.guard }], guard := some (2, true) }) (v := ?vu2x5) rfl (by kernel_rfl) (by kernel_rfl) (by kernel_rfl) (fun _ _ _ h => h) (Or.inl ⟨by rfl, ?hyu2x5⟩) hHeld0 ?restu2x5
      case hyu2x5 => first | (intro w hSw; (try dsimp only at hSw); go_simp; done) | (intro w hSw; (try dsimp only at hSw); go_simp; with_reducible rfl)
      (try simp only [Act.put, List.setIfInBounds_toArray, List.set_cons_zero, List.set_cons_succ])
      refine wpAnyH_take (i := 6) (oi := { dst := some 23, op := Go.Op.binOp Go.BinOp.sub 3 (Go.Operand.tmp 22) (Go.Operand.const (Go.Value.int Go.IntKind.i64 1)) 3, type := 3, pos := "l6_jobs.go:158", after := #[{ on := 5, ground := Go.Ground.data }, { on := 2, ground := Go.Ground.guard }], guard := some (2, true) }) (v := ?vu2x6) rfl (by kernel_rfl) (by kernel_rfl) (by kernel_rfl) (fun _ _ _ h => h) (Or.inl ⟨by rfl, ?hyu2x6⟩) hHeld0 ?restu2x6
      case hyu2x6 => first | (intro w hSw; (try dsimp only at hSw); go_simp; done) | (intro w hSw; (try dsimp only at hSw); go_simp; with_reducible rfl)
      (try simp only [Act.put, List.setIfInBounds_toArray, List.set_cons_zero, List.set_cons_succ])
      refine wpAnyH_take (i := 7) (oi := { dst := some 24, op := Go.Op.indexAddr 24 (Go.Operand.tmp 21) (Go.Operand.tmp 23), type := 0, pos := "l6_jobs.go:158", after := #[{ on := 4, ground := Go.Ground.data }, { on := 6, ground := Go.Ground.data }, { on := 2, ground := Go.Ground.guard }], guard := some (2, true) }) (v := ?vu2x7) rfl (by kernel_rfl) (by kernel_rfl) (by kernel_rfl) (fun _ _ _ h => h) (Or.inl ⟨by rfl, ?hyu2x7⟩) hHeld0 ?restu2x7
      case hyu2x7 => first | (intro w hSw; (try dsimp only at hSw); go_simp; done) | (intro w hSw; (try dsimp only at hSw); go_simp; with_reducible rfl)
      (try simp only [Act.put, List.setIfInBounds_toArray, List.set_cons_zero, List.set_cons_succ])
      refine wpAnyH_take (i := 8) (oi := { dst := some 25, op := Go.Op.load 35 (Go.Operand.tmp 24), type := 35, pos := "l6_jobs.go:158", after := #[{ on := 7, ground := Go.Ground.data }, { on := 2, ground := Go.Ground.guard }], guard := some (2, true) }) (v := ?vu2x8) rfl (by kernel_rfl) (by kernel_rfl) (by kernel_rfl) (fun _ _ _ h => h) (Or.inl ⟨by rfl, ?hyu2x8⟩) hHeld0 ?restu2x8
      case hyu2x8 => first | (intro w hSw; (try dsimp only at hSw); go_simp; done) | (intro w hSw; (try dsimp only at hSw); go_simp; with_reducible rfl)
      (try simp only [Act.put, List.setIfInBounds_toArray, List.set_cons_zero, List.set_cons_succ])
      refine wpAnyH_ready (rs := [9]) (by kernel_rfl) (by simp) ?_
      refine AllReadyH.cons (o := { dst := some 26, op := Go.Op.call { callee := Go.Callee.value (Go.Operand.func 81), args := #[Go.Operand.tmp 20, Go.Operand.tmp 25], argTypes := #[35, 35] }, type := 4, pos := "l6_jobs.go:158", after := #[{ on := 3, ground := Go.Ground.data }, { on := 8, ground := Go.Ground.data }, { on := 2, ground := Go.Ground.chain }, { on := 2, ground := Go.Ground.guard }], guard := some (2, true) }) rfl (fun K hK => ?_) AllReadyH.nil
      go_simp
      (go_at_call 81; refine (sBef_is _ ⟨ta, tm, ne⟩ ⟨pa, pm, pe⟩ false HBF.out).mono ?_; rintro e w6 ⟨rfl, hb⟩; have HB6 := Lib.hid (show Below w4.heap.size w4 w6 from bl_trans (by repeat (first | with_reducible exact Below.refl _ _ | with_reducible refine bl_drewN ?_ _ | with_reducible refine Below.drew ?_)) hb); clear hb)
      (try go_wp2_with fail)
      refine hK.out _ _ (by exact And.intro ((HB6.out.cell (p := ⟨w.heap.size, 0, none⟩) hgl).trans (HC.out.1)) (And.intro ((HB6.out.cell (p := ⟨w.heap.size, 1, none⟩) hgl).trans (HC.out.2.1)) (And.intro ((HB6.out.cell (p := ⟨w.heap.size, 2, none⟩) hgl).trans (HC.out.2.2.1)) (And.intro ((HB6.out.cell (p := ⟨bj, oj + r * 3, none⟩) hbj4).trans (HC.out.2.2.2.1)) (And.intro ((HB6.out.cell (p := ⟨bj, oj + r * 3 + 1, none⟩) hbj4).trans (HC.out.2.2.2.2.1)) (((HB6.out.cell (p := ⟨bj, oj + r * 3 + 2, none⟩) hbj4).trans (HC.out.2.2.2.2.2)))))))) (fun hHeld1 => ?_)
      clear hK K
      (try simp only [Act.put, List.setIfInBounds_toArray, List.set_cons_zero, List.set_cons_succ])
      refine wpAnyH_take (i := 10) (oi := { dst := some 27, op := Go.Op.pick (Go.Operand.tmp 19) (Go.Operand.tmp 26) (Go.Operand.const (Go.Value.bool false)), type := 4, pos := "l6_jobs.go:158", after := #[{ on := 2, ground := Go.Ground.data }, { on := 9, ground := Go.Ground.data }], guard := none }) (v := ?vu2x10) rfl (by kernel_rfl) (by kernel_rfl) (by kernel_rfl) (fun _ _ _ h => h) (Or.inl ⟨by rfl, ?hyu2x10⟩) hHeld1 ?restu2x10
      case hyu2x10 => first | (intro w hSw; (try dsimp only at hSw); go_simp; done) | (intro w hSw; (try dsimp only at hSw); go_simp; with_reducible rfl)
      (try simp only [Act.put, List.setIfInBounds_toArray, List.set_cons_zero, List.set_cons_succ])
      refine wpAnyH_done (by kernel_rfl) ?_ _
      have HT := Lib.hid (bl_trans HB.out HB6.out)
      have BT := Lib.hid (BJ.out.below HB6.out hgl)
      obtain ⟨w7, hw7⟩ : ∃ W, W = w6 := ⟨_, rfl⟩
      subst hw7
      clear HB6 HC q0 q00 r0 r1 r2 HBF HPJ hbj4 hbj HB BJ hgl
      have hpl : putL ⟨ta, tm, ne⟩ js = js.take q ++ ⟨ta, tm, ne⟩ :: js.drop q := by unfold putL; rw [HP.out]
      have hplen : (putL ⟨ta, tm, ne⟩ js).length = m + 1 := by rw [putL_len, HM.out]
      have htl : (js.take q).length = q := by rw [List.length_take, HM.out]; omega
      have hdl : (js.drop q).length = m - q := by rw [List.length_drop, HM.out]
      have HPUT := Lib.hid hpl
      have HPLEN := Lib.hid hplen
      have HTL := Lib.hid htl
      have HDL := Lib.hid hdl
      clear hpl hplen htl hdl HP
      have hx7 : w.heap.size < w7.heap.size := BT.out.lt
      have hw7 : w.heap.size ≤ w7.heap.size := HT.out.size
      have qc : (((q : Nat) : Int)) ≤ (c2 : Int) := by omega
      have qm : (((q : Nat) : Int)) ≤ (m : Int) := by omega
      have qz : (0 : Int) ≤ (((q : Nat) : Int)) := by omega
      
      by_cases hcq : c2 = q
      · have hcq2 : q = c2 := hcq.symm
        subst hcq2
        have HDN := Lib.hid (show js.drop q = [] from List.drop_of_length_le (by rw [HM.out]; omega))
        go_wp2_with (first
          | (at_builtin; refine wpList_append_own _ rfl (.tmp 30) (.tmp 33) 24 rfl w7.heap.size 35 i0 _ 3 24 Try.underlying24 hi hz0 hz1 hz2 rfl (by decide) _ 0 [] rfl (OwnJ.empty w7) ⟨bj, oj, none⟩ q q ((js.take q).flatMap Jb.cells) rfl (by rw [jcells_length, HTL.out]) (Jbs.cells3 (((J.out.below (bl_alloc HT.out _)).take (by omega : q ≤ m)))) (jcells_one _) (by unfold maxLen; omega) (by omega) (by simp) ?_; intro v1 w8 hown1 hgrow1 _; have HO1 := Lib.hid (show OwnJ w8 w7.heap.size v1 (js.take q) from by unfold OwnJ; rw [HTL.out]; simpa using hown1); have HB8 := Lib.hid (show Below w7.heap.size w7 w8 from (bl_alloc (Below.refl _ _) _).grown hgrow1 (by simp) (fun x e => (World.ownsRow.lt (OwnJ.empty w7) x e).1)); have BJ8 := Lib.hid (BT.out.below HB8.out hx7); have cj := BJ8.out.cell; obtain ⟨A3, c3, hv1⟩ := HO1.out.form; rw [HTL.out] at hv1; subst hv1; clear hown1 hgrow1)
          | (at_builtin; refine wpList_append_own _ rfl (.tmp 35) (.tmp 37) 24 rfl w7.heap.size 35 i0 _ 3 24 Try.underlying24 hi hz0 hz1 hz2 rfl (by decide) _ q ((js.take q).flatMap Jb.cells) rfl (by have hh := HO1.out.alloc (.cells #[.int .i64 ta, .int .i64 tm, .int .i64 ne] 35); unfold OwnJ at hh; rw [HTL.out] at hh; exact hh) ⟨w8.heap.size, 0, none⟩ 1 1 (Jb.cells ⟨ta, tm, ne⟩) rfl rfl (cell_new3 _ ⟨ta, tm, ne⟩ _) (by intro u hu; exact jcells_one [⟨ta, tm, ne⟩] u (by simpa using hu)) (by unfold maxLen; omega) (by omega) (by have := HB8.out.size; simp; omega) ?_; intro v2 w9 hown2 hgrow2 _; have HO2 := Lib.hid (show OwnJ w9 w7.heap.size v2 (js.take q ++ [⟨ta, tm, ne⟩]) from OwnJ.snoc (by rw [HTL.out]; exact hown2)); have HB9 := Lib.hid ((bl_alloc HB8.out _).grown hgrow2 (by have := HB8.out.size; simp; omega) (fun k e => (World.ownsRow.lt HO1.out k e).1)); have HL2 := Lib.hid (show (js.take q ++ [(⟨ta, tm, ne⟩ : Jb)]).length = q + 1 by rw [List.length_append, HTL.out]; rfl); obtain ⟨g4, c4, hv2⟩ := HO2.out.some_ (by rw [HL2.out]; omega); rw [HL2.out] at hv2; subst hv2; have hw9 : w7.heap.size ≤ w9.heap.size := HB9.out.size; clear hown2 hgrow2 cj)
          | (at_builtin; refine wpList_append_own _ rfl (.tmp 39) (.tmp 42) 24 rfl w7.heap.size 35 i0 _ 3 24 Try.underlying24 hi hz0 hz1 hz2 rfl (by decide) _ (q + 1) ((js.take q ++ [(⟨ta, tm, ne⟩ : Jb)]).flatMap Jb.cells) rfl (by have hh := HO2.out; unfold OwnJ at hh; rw [HL2.out] at hh; exact hh) ⟨bj, oj, none⟩ 0 0 ([] : List Value) rfl rfl (by intro j u hu; simp at hu) (by intro u hu; simp at hu) (by unfold maxLen; omega) (by omega) hw9 ?_; intro v3 w10 hown3 hgrow3 _; have HO3 := Lib.hid (show OwnJ w10 w7.heap.size v3 (putL ⟨ta, tm, ne⟩ js) from by rw [HPUT.out, HDN.out]; unfold OwnJ; rw [HL2.out]; simpa using hown3); have HB10 := Lib.hid (HB9.out.grown hgrow3 hw9 (fun k e => (World.ownsRow.lt HO2.out k e).1)); obtain ⟨g5, c5, hv3⟩ := HO3.out.some_ (by rw [HPLEN.out]; omega); rw [HPLEN.out] at hv3; subst hv3; clear hown3 hgrow3))
        have HT10 := Lib.hid (bl_trans HT.out HB10.out)
        have hrd := HO3.out.reads.2
        have HRD := Lib.hid hrd
        clear hrd
        cases hjb : jobsB ts (putL ⟨ta, tm, ne⟩ js)
        · have HJB := Lib.hid hjb
          obtain rfl : b = false := by rw [← HR.out]; unfold putB; rw [hjb]; simp
          have hpv : putV ts js ⟨ta, tm, ne⟩ = [] := by unfold putV; rw [HR.out]; rfl
          have HPV := Lib.hid hpv
          clear hjb hpv
          go_wp2_with fail
          refine (sJobs_is _ A n c ts ((H.out.below HT10.out).more HT10.out.size) hn _ (m + 1) c5 (putL ⟨ta, tm, ne⟩ js) HRD.out false HJB.out).mono ?_
          rintro e w11 ⟨rfl, hb⟩
          have HT11 := Lib.hid (bl_trans HT10.out hb)
          have hs11 := HT11.out.size
          clear hb
          go_wp2
          refine bodyPost_ret (v := .tuple #[.slice (some ⟨w11.heap.size, 0, none⟩) 0 0, .bool false]) (by simp [results, Try.results96, go_sem]) rfl (by rw [HPV.out]; exact ⟨w11.heap.size, 0, rfl, (OwnJ.empty w11).less hs11, bl_alloc HT11.out _⟩)
        · have HJB := Lib.hid hjb
          obtain rfl : b = true := by rw [← HR.out]; unfold putB; rw [hjb, HJ1.out]; rfl
          have hpv : putV ts js ⟨ta, tm, ne⟩ = putL ⟨ta, tm, ne⟩ js := by unfold putV; rw [HR.out]; rfl
          have HPV := Lib.hid hpv
          clear hjb hpv
          go_wp2_with fail
          refine (sJobs_is _ A n c ts ((H.out.below HT10.out).more HT10.out.size) hn _ (m + 1) c5 (putL ⟨ta, tm, ne⟩ js) HRD.out true HJB.out).mono ?_
          rintro e w11 ⟨rfl, hb⟩
          have HT11 := Lib.hid (bl_trans HT10.out hb)
          have HO11 := Lib.hid ((HO3.out.below hb).less hw7)
          clear hb
          go_wp2
          refine bodyPost_ret (v := .tuple #[.slice (some ⟨g5, 0, none⟩) (putL ⟨ta, tm, ne⟩ js).length c5, .bool true]) (by simp [results, Try.results96, go_sem, HPLEN.out]) rfl (by rw [HPV.out]; exact ⟨g5, c5, rfl, by have hh := HO11.out; rw [← HPLEN.out] at hh; exact hh, HT11.out⟩)
      · have k1 : ¬ ((q : Nat) : Int) = (c2 : Int) := by omega
        have k2 : (((q : Nat) : Int) == (c2 : Int)) = false := by rw [beq_eq_false_iff_ne]; exact k1
        have k3 : ¬ q = c2 := fun e => hcq e.symm
        go_wp2_with (first
          | (at_builtin; refine wpList_append_own _ rfl (.tmp 30) (.tmp 33) 24 rfl w7.heap.size 35 i0 _ 3 24 Try.underlying24 hi hz0 hz1 hz2 rfl (by decide) _ 0 [] rfl (OwnJ.empty w7) ⟨bj, oj, none⟩ q c2 ((js.take q).flatMap Jb.cells) rfl (by rw [jcells_length, HTL.out]) (Jbs.cells3 (((J.out.below (bl_alloc HT.out _)).take (by omega : q ≤ m)))) (jcells_one _) (by unfold maxLen; omega) (by omega) (by simp) ?_; intro v1 w8 hown1 hgrow1 _; have HO1 := Lib.hid (show OwnJ w8 w7.heap.size v1 (js.take q) from by unfold OwnJ; rw [HTL.out]; simpa using hown1); have HB8 := Lib.hid (show Below w7.heap.size w7 w8 from (bl_alloc (Below.refl _ _) _).grown hgrow1 (by simp) (fun x e => (World.ownsRow.lt (OwnJ.empty w7) x e).1)); have BJ8 := Lib.hid (BT.out.below HB8.out hx7); have cj := BJ8.out.cell; obtain ⟨A3, c3, hv1⟩ := HO1.out.form; rw [HTL.out] at hv1; subst hv1; clear hown1 hgrow1)
          | (at_builtin; refine wpList_append_own _ rfl (.tmp 35) (.tmp 37) 24 rfl w7.heap.size 35 i0 _ 3 24 Try.underlying24 hi hz0 hz1 hz2 rfl (by decide) _ q ((js.take q).flatMap Jb.cells) rfl (by have hh := HO1.out.alloc (.cells #[.int .i64 ta, .int .i64 tm, .int .i64 ne] 35); unfold OwnJ at hh; rw [HTL.out] at hh; exact hh) ⟨w8.heap.size, 0, none⟩ 1 1 (Jb.cells ⟨ta, tm, ne⟩) rfl rfl (cell_new3 _ ⟨ta, tm, ne⟩ _) (by intro u hu; exact jcells_one [⟨ta, tm, ne⟩] u (by simpa using hu)) (by unfold maxLen; omega) (by omega) (by have := HB8.out.size; simp; omega) ?_; intro v2 w9 hown2 hgrow2 _; have HO2 := Lib.hid (show OwnJ w9 w7.heap.size v2 (js.take q ++ [⟨ta, tm, ne⟩]) from OwnJ.snoc (by rw [HTL.out]; exact hown2)); have HB9 := Lib.hid ((bl_alloc HB8.out _).grown hgrow2 (by have := HB8.out.size; simp; omega) (fun k e => (World.ownsRow.lt HO1.out k e).1)); have HL2 := Lib.hid (show (js.take q ++ [(⟨ta, tm, ne⟩ : Jb)]).length = q + 1 by rw [List.length_append, HTL.out]; rfl); obtain ⟨g4, c4, hv2⟩ := HO2.out.some_ (by rw [HL2.out]; omega); rw [HL2.out] at hv2; subst hv2; have hw9 : w7.heap.size ≤ w9.heap.size := HB9.out.size; clear hown2 hgrow2 cj)
          | (at_builtin; refine wpList_append_own _ rfl (.tmp 39) (.tmp 42) 24 rfl w7.heap.size 35 i0 _ 3 24 Try.underlying24 hi hz0 hz1 hz2 rfl (by decide) _ (q + 1) ((js.take q ++ [(⟨ta, tm, ne⟩ : Jb)]).flatMap Jb.cells) rfl (by have hh := HO2.out; unfold OwnJ at hh; rw [HL2.out] at hh; exact hh) ⟨bj, oj + q * 3, none⟩ (m - q) (c2 - q) ((js.drop q).flatMap Jb.cells) rfl (by rw [jcells_length, HDL.out]) (Jbs.cells3 (Jbs.drop (k := q) (J.out.below (bl_trans HT.out HB9.out)) rfl)) (jcells_one _) (by unfold maxLen; omega) (by omega) hw9 ?_; intro v3 w10 hown3 hgrow3 _; have HO3 := Lib.hid (show OwnJ w10 w7.heap.size v3 (putL ⟨ta, tm, ne⟩ js) from by unfold OwnJ; rw [HPLEN.out, HPUT.out, show js.take q ++ (⟨ta, tm, ne⟩ : Jb) :: js.drop q = (js.take q ++ [⟨ta, tm, ne⟩]) ++ js.drop q by simp, List.flatMap_append]; rw [show q + 1 + (m - q) = m + 1 by omega] at hown3; exact hown3); have HB10 := Lib.hid (HB9.out.grown hgrow3 hw9 (fun k e => (World.ownsRow.lt HO2.out k e).1)); obtain ⟨g5, c5, hv3⟩ := HO3.out.some_ (by rw [HPLEN.out]; omega); rw [HPLEN.out] at hv3; subst hv3; clear hown3 hgrow3))
        have HT10 := Lib.hid (bl_trans HT.out HB10.out)
        have hrd := HO3.out.reads.2
        have HRD := Lib.hid hrd
        clear hrd
        cases hjb : jobsB ts (putL ⟨ta, tm, ne⟩ js)
        · have HJB := Lib.hid hjb
          obtain rfl : b = false := by rw [← HR.out]; unfold putB; rw [hjb]; simp
          have hpv : putV ts js ⟨ta, tm, ne⟩ = [] := by unfold putV; rw [HR.out]; rfl
          have HPV := Lib.hid hpv
          clear hjb hpv
          go_wp2_with fail
          refine (sJobs_is _ A n c ts ((H.out.below HT10.out).more HT10.out.size) hn _ (m + 1) c5 (putL ⟨ta, tm, ne⟩ js) HRD.out false HJB.out).mono ?_
          rintro e w11 ⟨rfl, hb⟩
          have HT11 := Lib.hid (bl_trans HT10.out hb)
          have hs11 := HT11.out.size
          clear hb
          go_wp2
          refine bodyPost_ret (v := .tuple #[.slice (some ⟨w11.heap.size, 0, none⟩) 0 0, .bool false]) (by simp [results, Try.results96, go_sem]) rfl (by rw [HPV.out]; exact ⟨w11.heap.size, 0, rfl, (OwnJ.empty w11).less hs11, bl_alloc HT11.out _⟩)
        · have HJB := Lib.hid hjb
          obtain rfl : b = true := by rw [← HR.out]; unfold putB; rw [hjb, HJ1.out]; rfl
          have hpv : putV ts js ⟨ta, tm, ne⟩ = putL ⟨ta, tm, ne⟩ js := by unfold putV; rw [HR.out]; rfl
          have HPV := Lib.hid hpv
          clear hjb hpv
          go_wp2_with fail
          refine (sJobs_is _ A n c ts ((H.out.below HT10.out).more HT10.out.size) hn _ (m + 1) c5 (putL ⟨ta, tm, ne⟩ js) HRD.out true HJB.out).mono ?_
          rintro e w11 ⟨rfl, hb⟩
          have HT11 := Lib.hid (bl_trans HT10.out hb)
          have HO11 := Lib.hid ((HO3.out.below hb).less hw7)
          clear hb
          go_wp2
          refine bodyPost_ret (v := .tuple #[.slice (some ⟨g5, 0, none⟩) (putL ⟨ta, tm, ne⟩ js).length c5, .bool true]) (by simp [results, Try.results96, go_sem, HPLEN.out]) rfl (by rw [HPV.out]; exact ⟨g5, c5, rfl, by have hh := HO11.out; rw [← HPLEN.out] at hh; exact hh, HT11.out⟩)
    · have HBF := Lib.hid hbf
      have HD2 := Lib.hid (show ∀ a ∈ js.drop r, befB ⟨ta, tm, ne⟩ a = true by
        intro a ha
        obtain ⟨hk, hk2⟩ := List.getElem?_eq_some_iff.1 HPJ.out
        rw [List.drop_eq_getElem_cons hk, hk2] at ha
        rcases List.mem_cons.1 ha with e | e
        · rw [e]; exact HBF.out
        · exact HD.out a (by rw [HQR.out]; exact e))
      clear hbf HD
      go_wp2_with fail
      refine wp_region_held_drew (S := (fun W => W.cell? ⟨w.heap.size, 0, none⟩ = some (.int .i64 ta) ∧ W.cell? ⟨w.heap.size, 1, none⟩ = some (.int .i64 tm) ∧ W.cell? ⟨w.heap.size, 2, none⟩ = some (.int .i64 ne) ∧ W.cell? ⟨bj, oj + r * 3, none⟩ = some (.int .i64 pa) ∧ W.cell? ⟨bj, oj + r * 3 + 1, none⟩ = some (.int .i64 pm) ∧ W.cell? ⟨bj, oj + r * 3 + 2, none⟩ = some (.int .i64 pe))) (by kernel_rfl) (by exact HC.out) (fun hHeld0 => ?_)
      refine wpAnyH_take (i := 0) (oi := { dst := some 17, op := Go.Op.move (Go.Operand.tmp 8), type := 3, pos := "l6_jobs.go:158", after := #[], guard := none }) (v := ?vu3x0) rfl (by kernel_rfl) (by kernel_rfl) (by kernel_rfl) (fun _ _ _ h => h) (Or.inl ⟨by rfl, ?hyu3x0⟩) hHeld0 ?restu3x0
      case hyu3x0 => first | (intro w hSw; (try dsimp only at hSw); go_simp; done) | (intro w hSw; (try dsimp only at hSw); go_simp; with_reducible rfl)
      (try simp only [Act.put, List.setIfInBounds_toArray, List.set_cons_zero, List.set_cons_succ])
      refine wpAnyH_take (i := 1) (oi := { dst := some 18, op := Go.Op.binOp Go.BinOp.gtr 3 (Go.Operand.tmp 17) (Go.Operand.const (Go.Value.int Go.IntKind.i64 0)) 3, type := 4, pos := "l6_jobs.go:158", after := #[{ on := 0, ground := Go.Ground.data }], guard := none }) (v := ?vu3x1) rfl (by kernel_rfl) (by kernel_rfl) (by kernel_rfl) (fun _ _ _ h => h) (Or.inl ⟨by rfl, ?hyu3x1⟩) hHeld0 ?restu3x1
      case hyu3x1 => first | (intro w hSw; (try dsimp only at hSw); go_simp; done) | (intro w hSw; (try dsimp only at hSw); go_simp; with_reducible rfl)
      (try simp only [Act.put, List.setIfInBounds_toArray, List.set_cons_zero, List.set_cons_succ])
      refine wpAnyH_take (i := 2) (oi := { dst := some 19, op := Go.Op.move (Go.Operand.tmp 18), type := 4, pos := "l6_jobs.go:158", after := #[{ on := 1, ground := Go.Ground.data }], guard := none }) (v := ?vu3x2) rfl (by kernel_rfl) (by kernel_rfl) (by kernel_rfl) (fun _ _ _ h => h) (Or.inl ⟨by rfl, ?hyu3x2⟩) hHeld0 ?restu3x2
      case hyu3x2 => first | (intro w hSw; (try dsimp only at hSw); go_simp; done) | (intro w hSw; (try dsimp only at hSw); go_simp; with_reducible rfl)
      (try simp only [Act.put, List.setIfInBounds_toArray, List.set_cons_zero, List.set_cons_succ])
      refine wpAnyH_take (i := 3) (oi := { dst := some 20, op := Go.Op.load 35 (Go.Operand.tmp 5), type := 35, pos := "l6_jobs.go:158", after := #[{ on := 2, ground := Go.Ground.guard }], guard := some (2, true) }) (v := ?vu3x3) rfl (by kernel_rfl) (by kernel_rfl) (by kernel_rfl) (fun _ _ _ h => h) (Or.inl ⟨by rfl, ?hyu3x3⟩) hHeld0 ?restu3x3
      case hyu3x3 => first | (intro w hSw; (try dsimp only at hSw); go_simp; done) | (intro w hSw; (try dsimp only at hSw); go_simp; with_reducible rfl)
      (try simp only [Act.put, List.setIfInBounds_toArray, List.set_cons_zero, List.set_cons_succ])
      refine wpAnyH_take (i := 4) (oi := { dst := some 21, op := Go.Op.move (Go.Operand.tmp 1), type := 24, pos := "l6_jobs.go:158", after := #[{ on := 2, ground := Go.Ground.guard }], guard := some (2, true) }) (v := ?vu3x4) rfl (by kernel_rfl) (by kernel_rfl) (by kernel_rfl) (fun _ _ _ h => h) (Or.inl ⟨by rfl, ?hyu3x4⟩) hHeld0 ?restu3x4
      case hyu3x4 => first | (intro w hSw; (try dsimp only at hSw); go_simp; done) | (intro w hSw; (try dsimp only at hSw); go_simp; with_reducible rfl)
      (try simp only [Act.put, List.setIfInBounds_toArray, List.set_cons_zero, List.set_cons_succ])
      refine wpAnyH_take (i := 5) (oi := { dst := some 22, op := Go.Op.move (Go.Operand.tmp 8), type := 3, pos := "l6_jobs.go:158", after := #[{ on := 2, ground := Go.Ground.guard }], guard := some (2, true) }) (v := ?vu3x5) rfl (by kernel_rfl) (by kernel_rfl) (by kernel_rfl) (fun _ _ _ h => h) (Or.inl ⟨by rfl, ?hyu3x5⟩) hHeld0 ?restu3x5
      case hyu3x5 => first | (intro w hSw; (try dsimp only at hSw); go_simp; done) | (intro w hSw; (try dsimp only at hSw); go_simp; with_reducible rfl)
      (try simp only [Act.put, List.setIfInBounds_toArray, List.set_cons_zero, List.set_cons_succ])
      refine wpAnyH_take (i := 6) (oi := { dst := some 23, op := Go.Op.binOp Go.BinOp.sub 3 (Go.Operand.tmp 22) (Go.Operand.const (Go.Value.int Go.IntKind.i64 1)) 3, type := 3, pos := "l6_jobs.go:158", after := #[{ on := 5, ground := Go.Ground.data }, { on := 2, ground := Go.Ground.guard }], guard := some (2, true) }) (v := ?vu3x6) rfl (by kernel_rfl) (by kernel_rfl) (by kernel_rfl) (fun _ _ _ h => h) (Or.inl ⟨by rfl, ?hyu3x6⟩) hHeld0 ?restu3x6
      case hyu3x6 => first | (intro w hSw; (try dsimp only at hSw); go_simp; done) | (intro w hSw; (try dsimp only at hSw); go_simp; with_reducible rfl)
      (try simp only [Act.put, List.setIfInBounds_toArray, List.set_cons_zero, List.set_cons_succ])
      refine wpAnyH_take (i := 7) (oi := { dst := some 24, op := Go.Op.indexAddr 24 (Go.Operand.tmp 21) (Go.Operand.tmp 23), type := 0, pos := "l6_jobs.go:158", after := #[{ on := 4, ground := Go.Ground.data }, { on := 6, ground := Go.Ground.data }, { on := 2, ground := Go.Ground.guard }], guard := some (2, true) }) (v := ?vu3x7) rfl (by kernel_rfl) (by kernel_rfl) (by kernel_rfl) (fun _ _ _ h => h) (Or.inl ⟨by rfl, ?hyu3x7⟩) hHeld0 ?restu3x7
      case hyu3x7 => first | (intro w hSw; (try dsimp only at hSw); go_simp; done) | (intro w hSw; (try dsimp only at hSw); go_simp; with_reducible rfl)
      (try simp only [Act.put, List.setIfInBounds_toArray, List.set_cons_zero, List.set_cons_succ])
      refine wpAnyH_take (i := 8) (oi := { dst := some 25, op := Go.Op.load 35 (Go.Operand.tmp 24), type := 35, pos := "l6_jobs.go:158", after := #[{ on := 7, ground := Go.Ground.data }, { on := 2, ground := Go.Ground.guard }], guard := some (2, true) }) (v := ?vu3x8) rfl (by kernel_rfl) (by kernel_rfl) (by kernel_rfl) (fun _ _ _ h => h) (Or.inl ⟨by rfl, ?hyu3x8⟩) hHeld0 ?restu3x8
      case hyu3x8 => first | (intro w hSw; (try dsimp only at hSw); go_simp; done) | (intro w hSw; (try dsimp only at hSw); go_simp; with_reducible rfl)
      (try simp only [Act.put, List.setIfInBounds_toArray, List.set_cons_zero, List.set_cons_succ])
      refine wpAnyH_ready (rs := [9]) (by kernel_rfl) (by simp) ?_
      refine AllReadyH.cons (o := { dst := some 26, op := Go.Op.call { callee := Go.Callee.value (Go.Operand.func 81), args := #[Go.Operand.tmp 20, Go.Operand.tmp 25], argTypes := #[35, 35] }, type := 4, pos := "l6_jobs.go:158", after := #[{ on := 3, ground := Go.Ground.data }, { on := 8, ground := Go.Ground.data }, { on := 2, ground := Go.Ground.chain }, { on := 2, ground := Go.Ground.guard }], guard := some (2, true) }) rfl (fun K hK => ?_) AllReadyH.nil
      go_simp
      (go_at_call 81; refine (sBef_is _ ⟨ta, tm, ne⟩ ⟨pa, pm, pe⟩ true HBF.out).mono ?_; rintro e w6 ⟨rfl, hb⟩; have HB6 := Lib.hid (show Below w4.heap.size w4 w6 from bl_trans (by repeat (first | with_reducible exact Below.refl _ _ | with_reducible refine bl_drewN ?_ _ | with_reducible refine Below.drew ?_)) hb); clear hb)
      (try go_wp2_with fail)
      refine hK.out _ _ (by exact And.intro ((HB6.out.cell (p := ⟨w.heap.size, 0, none⟩) hgl).trans (HC.out.1)) (And.intro ((HB6.out.cell (p := ⟨w.heap.size, 1, none⟩) hgl).trans (HC.out.2.1)) (And.intro ((HB6.out.cell (p := ⟨w.heap.size, 2, none⟩) hgl).trans (HC.out.2.2.1)) (And.intro ((HB6.out.cell (p := ⟨bj, oj + r * 3, none⟩) hbj4).trans (HC.out.2.2.2.1)) (And.intro ((HB6.out.cell (p := ⟨bj, oj + r * 3 + 1, none⟩) hbj4).trans (HC.out.2.2.2.2.1)) (((HB6.out.cell (p := ⟨bj, oj + r * 3 + 2, none⟩) hbj4).trans (HC.out.2.2.2.2.2)))))))) (fun hHeld1 => ?_)
      clear hK K
      (try simp only [Act.put, List.setIfInBounds_toArray, List.set_cons_zero, List.set_cons_succ])
      refine wpAnyH_take (i := 10) (oi := { dst := some 27, op := Go.Op.pick (Go.Operand.tmp 19) (Go.Operand.tmp 26) (Go.Operand.const (Go.Value.bool false)), type := 4, pos := "l6_jobs.go:158", after := #[{ on := 2, ground := Go.Ground.data }, { on := 9, ground := Go.Ground.data }], guard := none }) (v := ?vu3x10) rfl (by kernel_rfl) (by kernel_rfl) (by kernel_rfl) (fun _ _ _ h => h) (Or.inl ⟨by rfl, ?hyu3x10⟩) hHeld1 ?restu3x10
      case hyu3x10 => first | (intro w hSw; (try dsimp only at hSw); go_simp; done) | (intro w hSw; (try dsimp only at hSw); go_simp; with_reducible rfl)
      (try simp only [Act.put, List.setIfInBounds_toArray, List.set_cons_zero, List.set_cons_succ])
      refine wpAnyH_done (by kernel_rfl) ?_ _
      have BJ6 := Lib.hid (BJ.out.below HB6.out hgl)
      have HW6 := Lib.hid (bl_trans HB.out HB6.out)
      go_wp2
      go_roundw
      case rel => exact ⟨r, by omega, by go_num, HD2, Lib.hid (by repeat (first | exact BJ6.out | refine Blk.drewN ?_ _ | refine Blk.drew ?_)), Lib.hid (by repeat (first | exact HW6.out | refine bl_drewN ?_ _ | refine Below.drew ?_))⟩
      case measure => have hqr := HQR.out; simp [intOf]; omega

end Go.Proofs.Ytjondedkgkohfaa
