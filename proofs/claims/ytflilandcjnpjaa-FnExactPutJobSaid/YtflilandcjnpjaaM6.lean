/- Texts of this seat in one file: QIns, QPut, QHa, QHs, QHp, QHk, QHq, QWo. -/
import Derived.Test.YtflilandcjnpjaaM2
import Derived.Test.YtflilandcjnpjaaM4
import Derived.Lib.AppendZerosOnto
import Derived.Test.YtflilandcjnpjaaM5
import Derived.RegionTactic
import Derived.ChangeAlike
import Derived.BigRegion
import Derived.Deep.AppendLies
import Derived.Deep.RegionLaw
import Derived.LoopTactic
import Derived.Outline
import Derived.Laws.EntriesVeiled
namespace Go.Proofs.Ytflilandcjnpjaa

section
/- Contracts of slices.Insert and slices.Clone at jobs. -/
open Go.RowKit
set_option linter.unusedVariables false

def JInsRes (g N B : Nat) (us : List Jb) (w : World) (e : Ending) (w' : World) : Prop :=
  e = .returned (.slice (some ⟨g, 0, none⟩) us.length N) ∧ OwnJ w' B (.slice (some ⟨g, 0, none⟩) us.length N) us ∧ w.grownBy w' (some g)

theorem jown_block {w : World} {B g n N : Nat} {ts : List Jb} (h : OwnJ w B (.slice (some ⟨g, 0, none⟩) n N) ts) :
    n = ts.length ∧ B ≤ g ∧ ∃ cur, w.heap[g]? = some (.cells cur 38 (0, 0)) ∧ n ≤ N ∧ N ≤ maxLen ∧ cur.size = N * 3 ∧ cur.toList.take (n * 3) = ts.flatMap Jb.cells := by
  have hn := h.reads.1
  rcases h.2 with ⟨e, h0⟩ | ⟨g', cap, cur, e, hb, hg, h1, h2, h3, h4⟩
  · cases e
  · injection e with e1 e2 e3
    injection e1 with e1
    injection e1 with e1
    subst e1 e3
    exact ⟨hn, hb, cur, hg, by omega, h2, h3, by rw [hn]; exact h4⟩

theorem jown_of_block {w : World} {B g N : Nat} {ts : List Jb} {cur : Array Value} (hb : B ≤ g) (hg : w.heap[g]? = some (.cells cur 38 (0, 0))) (hn : ts.length ≤ N) (hN : N ≤ maxLen) (hs : cur.size = N * 3)
    (ht : cur.toList.take (ts.length * 3) = ts.flatMap Jb.cells) : OwnJ w B (.slice (some ⟨g, 0, none⟩) ts.length N) ts :=
  ⟨jcells_length ts, .inr ⟨g, N, cur, rfl, hb, hg, hn, hN, hs, ht⟩⟩

theorem jdrop_cells (ts : List Jb) : ∀ i, (ts.flatMap Jb.cells).drop (i * 3) = (ts.drop i).flatMap Jb.cells := by
  induction ts with
  | nil => intro i; simp
  | cons t ts ih =>
    intro i
    cases i with
    | zero => simp
    | succ i =>
      have e : (i + 1) * 3 = t.cells.length + i * 3 := by simp [Jb.cells]; omega
      rw [List.flatMap_cons, e, List.drop_append, List.drop_succ_cons]
      simp [ih]
theorem jtake_cells (ts : List Jb) : ∀ i, (ts.flatMap Jb.cells).take (i * 3) = (ts.take i).flatMap Jb.cells := by
  induction ts with
  | nil => intro i; simp
  | cons t ts ih =>
    intro i
    cases i with
    | zero => simp
    | succ i =>
      have e : (i + 1) * 3 = t.cells.length + i * 3 := by simp [Jb.cells]; omega
      rw [List.flatMap_cons, e, List.take_append, List.take_succ_cons]
      simp [ih]
      exact List.take_of_length_le (by omega)

theorem jinfo_size : (Try.prog.info? 38).map (·.size) = some 3 := by kernel_rfl
theorem sizeOf_job (w : World) : (Go.sizeOf 38).run Try.prog w = .ok 3 w := by
  obtain ⟨i0, hi, hz0, hz1, hz2⟩ := info_parts info_job
  simp [Go.sizeOf, typeInfo, hi, hz1]

theorem joverlaps_no (w : World) (vb g o la ca lb cb : Nat) (cv cg : Array Value) (hv : Blk w vb 38 cv) (hg : Blk w g 38 cg) (hne : vb ≠ g) (hcg : cg.size ≠ 0) :
    (callFunc 73 #[.slice (some ⟨vb, 0, none⟩) la ca, .slice (some ⟨g, o, none⟩) lb cb]).run Try.prog w = .ok (.value (.bool false)) w := by
  have hsv : w.shape? vb = some (38, cv.size) := by unfold Blk at hv; simp [World.shape?, hv]
  have hsg : w.shape? g = some (38, cg.size) := by unfold Blk at hg; simp [World.shape?, hg]
  rw [run_callFunc_extern Try.func73 (by kernel_rfl) (by kernel_rfl) (by kernel_rfl) (e := Extern.SlicesOverlaps.overlaps #[26, 26] #[4]) (by kernel_rfl),
    Lib.run_overlaps_apart w 26 4 38 Try.underlying26 3 sizeOf_job ⟨vb, 0, none⟩ ⟨g, o, none⟩ la ca lb cb hne 38 38 cv.size cg.size hsv hsg hcg (hv.frozen 0) (hv.frozen _)]
  rfl

theorem jown_row {w : World} {B n : Nat} {v : Value} {ts : List Jb} (h : OwnJ w B v ts) (hn : n = ts.length) : w.ownsRow B 38 3 v n (ts.flatMap Jb.cells) := by subst hn; exact h

set_option maxHeartbeats 2000000 in
theorem jinsert_shift (w : World) (B g n N i vb : Nat) (ts : List Jb) (t : Jb) (h : OwnJ w B (.slice (some ⟨g, 0, none⟩) n N) ts) (hN : n + 1 ≤ N) (hi : i < n) (hne : vb ≠ g)
    (hv : Blk w vb 38 #[.int .i64 t.ta, .int .i64 t.tm, .int .i64 t.ne]) (hn5 : n ≤ 1048576) :
    Calls Try.prog 72 #[.slice (some ⟨g, 0, none⟩) n N, .int .i64 i, .slice (some ⟨vb, 0, none⟩) 1 1] w (JInsRes g N B (ts.take i ++ t :: ts.drop i) w) := by
  obtain ⟨hnl, hBg, cur, hcur, _, hNm, hcs, htk⟩ := jown_block h
  have hcl : (ts.flatMap Jb.cells).length = n * 3 := by rw [jcells_length, hnl]
  have hdl : ((ts.flatMap Jb.cells).drop (i * 3)).length = (n - i) * 3 := by rw [List.length_drop, hcl]; omega
  -- the first copy
  obtain ⟨R1, hR1⟩ : ∃ R1 : List Value, R1 = cur.toList.take (i * 3 + 3) ++ (ts.flatMap Jb.cells).drop (i * 3) ++ cur.toList.drop (i * 3 + 3 + ((ts.flatMap Jb.cells).drop (i * 3)).length) := ⟨_, rfl⟩
  have hcell : ∀ j u, (ts.flatMap Jb.cells)[j]? = some u → w.cell? ⟨g, j, none⟩ = some u := by
    intro j u hu
    have hj : j < n * 3 := by have := (List.getElem?_eq_some_iff.1 hu).1; omega
    rw [cell_of_row w g j cur _ _ hcur, ← hu, ← htk, List.getElem?_take, if_pos hj]
    simp
  have hcp1 : ∀ (ty : TypeId) (o1 o2 l1 l2 c1 c2 : Nat), o1 = i * 3 + 3 → o2 = i * 3 → l1 = n - i → l2 = n + 1 - i →
      (Builtin.copy_ #[26, 26] ty #[.slice (some ⟨g, o1, none⟩) l1 c1, .slice (some ⟨g, o2, none⟩) l2 c2]).run Try.prog w.drew = .ok (goInt (n - i : Nat)) (w.drew.setRow g R1.toArray) := by
    intro ty o1 o2 l1 l2 c1 c2 e1 e2 e3 e4
    subst e1 e2 e3 e4
    rw [hR1]
    exact run_copy_k w.drew _ _ ty 38 3 g (i * 3 + 3) (n - i) c1 ⟨g, i * 3, none⟩ (n + 1 - i) c2 (n - i) cur 38 ((ts.flatMap Jb.cells).drop (i * 3)) Try.underlying26 jinfo_size hcur (by simp only [Nat.min_def]; split <;> omega) hdl
      (fun j u hj => by
        have ea : (⟨g, i * 3, none⟩ : Addr).add j = ⟨g, i * 3 + j, none⟩ := by unfold Addr.add; split <;> simp_all
        rw [ea]
        exact hcell (i * 3 + j) u (by rwa [List.getElem?_drop] at hj)) (by rw [hdl, hcs]; omega) (fun u hu => jcells_one ts u (List.mem_of_mem_drop hu))
  have hR1l : R1.length = N * 3 := by rw [hR1]; simp only [List.length_append, List.length_take, List.length_drop, hdl, Array.length_toList, hcs]; omega
  -- the second copy
  obtain ⟨R2, hR2⟩ : ∃ R2 : List Value, R2 = R1.take (i * 3) ++ t.cells ++ R1.drop (i * 3 + t.cells.length) := ⟨_, rfl⟩
  have hcur2 : (w.drew.setRow g R1.toArray).heap[g]? = some (.cells R1.toArray 38 (0, 0)) := setRow_heap w.drew g cur _ _ _ hcur
  have hvcells : ∀ j u, t.cells[j]? = some u → (w.drew.setRow g R1.toArray).cell? ((⟨vb, 0, none⟩ : Addr).add j) = some u := by
    intro j u hj
    have ea : (⟨vb, 0, none⟩ : Addr).add j = ⟨vb, j, none⟩ := by unfold Addr.add; split <;> simp_all
    have hv2 : Blk (w.drew.setRow g R1.toArray) vb 38 _ := Blk.grown hv ⟨rfl, rfl, rfl, by simp, fun k _ hk => setRow_other w.drew g k _ (fun e => hk (by rw [e]))⟩ (by intro e; injection e with e; exact hne e)
    rw [ea, hv2.cell j, ← hj]
    simp [Jb.cells]
  have hcp2 : ∀ (ty : TypeId) (o1 l1 c1 : Nat), o1 = i * 3 → l1 = n + 1 - i →
      (Builtin.copy_ #[26, 26] ty #[.slice (some ⟨g, o1, none⟩) l1 c1, .slice (some ⟨vb, 0, none⟩) 1 1]).run Try.prog (w.drew.setRow g R1.toArray) = .ok (goInt (1 : Nat)) ((w.drew.setRow g R1.toArray).setRow g R2.toArray) := by
    intro ty o1 l1 c1 e1 e2
    subst e1 e2
    rw [hR2]
    have hx := run_copy_k (w.drew.setRow g R1.toArray) 26 26 ty 38 3 g (i * 3) (n + 1 - i) c1 ⟨vb, 0, none⟩ 1 1 1 R1.toArray 38 t.cells Try.underlying26 jinfo_size hcur2 (by simp only [Nat.min_def]; split <;> omega) rfl hvcells
      (by simp only [List.size_toArray, hR1l]; simp [Jb.cells]; omega) (fun u hu => jcells_one [t] u (by simpa using hu))
    simpa using hx
  have hov := fun (o lb cb : Nat) => joverlaps_no w vb g o 1 1 lb cb _ cur hv hcur hne (by rw [hcs]; omega)
  have hfin : R2.take ((n + 1) * 3) = (ts.take i ++ t :: ts.drop i).flatMap Jb.cells := by
    have hx := ins_row (L := cur.toList) (X := ts.flatMap Jb.cells) (Y := t.cells) (a := i * 3) (b := 3) (n := n * 3) htk (by rw [Array.length_toList, hcs]; omega) (by omega) rfl (by rw [Array.length_toList, hcs]; omega)
    rw [← hR1, ← hR2] at hx
    rw [show (n + 1) * 3 = n * 3 + 3 by omega, hx, List.flatMap_append, List.flatMap_cons, jtake_cells, jdrop_cells, List.append_assoc]
  have hlen : (ts.take i ++ t :: ts.drop i).length = n + 1 := by simp; omega
  have hR2l : R2.length = N * 3 := by rw [hR2]; simp only [List.length_append, List.length_take, List.length_drop, hR1l]; simp [Jb.cells]; omega
  have HF : Hid (JInsRes g N B (ts.take i ++ t :: ts.drop i) w (.returned (.slice (some ⟨g, 0, none⟩) (n + 1) N)) ((w.drew.setRow g R1.toArray).setRow g R2.toArray)) := by
    refine ⟨by rw [hlen], ?_, ?_⟩
    · exact jown_of_block (cur := R2.toArray) hBg (setRow_heap _ g _ _ _ _ hcur2) (by rw [hlen]; exact hN) hNm (by simpa using hR2l) (by rw [hlen]; exact hfin)
    · exact gb_trans (a := w) (b := w.drew.setRow g R1.toArray) ⟨rfl, rfl, rfl, by simp, fun k _ hk => setRow_other w.drew g k _ (fun e => hk (by rw [e]))⟩ (gb_setRow _ g _) (fun x e => .inl (by injection e with e; exact e.symm))
  have HC1 := Lib.hid hcp1
  have HC2 := Lib.hid hcp2
  have HOV := Lib.hid hov
  obtain ⟨W1, hW1⟩ : ∃ W1, W1 = w.drew.setRow g R1.toArray := ⟨_, rfl⟩
  rw [← hW1] at HC1 HC2 HF
  unfold maxLen at hNm
  clear hcp1 hcp2 hov hfin hlen hR2l hR1l hR1 hR2 hcur2 hvcells hcell hdl hcl htk hcs hcur hnl hv h hW1
  have hw1 : IntKind.i64.wrap ((i : Int) + 1) = (i : Int) + 1 := by rw [IntKind.wrap_i64]; omega
  have hi0 : (0 : Int) ≤ (i : Int) + 1 := by omega
  have htn : ((i : Int) + 1).toNat = i + 1 := by omega
  have hb2 : ¬ (N = i + 1) := by omega
  have hb4 : ¬ (N = i) := by omega
  have hne1 : ((i : Int) == (n : Int)) = false := by simp; omega
  have hb3 : (i : Int) ≤ (n : Int) + 1 := by omega
  have hin : i ≤ n := by omega
  have hin2 : i ≤ n + 1 := by omega
  have hov := HOV.out
  go_enter Try.func72, Try.ntmps72
  go_wp2_with (simp only [hov])
  go_region_law (refine step_copy_run rfl (.tmp 73) (.tmp 76) 26 26 rfl (.slice (some ⟨g, (i + 1) * 3, none⟩) (n - i) (N - (i + 1))) (.slice (some ⟨g, i * 3, none⟩) (n + 1 - i) (N - i)) (by simp [Act.eval, Act.put]) (by simp [Act.eval, Act.put]) (HC1.out _ _ _ _ _ _ _ (by omega) (by omega) (by omega) (by omega)) ?_)
  go_wp2_with (first | (at_builtin; refine wpList_copy_run _ rfl (.tmp 80) (.tmp 81) 26 26 rfl (.slice (some ⟨g, i * 3, none⟩) (n + 1 - i) (N - i)) (.slice (some ⟨vb, 0, none⟩) 1 1) rfl rfl (HC2.out _ _ _ _ rfl rfl) ?_) | (with_reducible refine wpList_copy_run _ rfl (.tmp 80) (.tmp 81) 26 26 rfl (.slice (some ⟨g, i * 3, none⟩) (n + 1 - i) (N - i)) (.slice (some ⟨vb, 0, none⟩) 1 1) rfl rfl (HC2.out _ _ _ _ rfl rfl) ?_))
  go_ret
  exact HF.out


theorem OwnJ.drew {w : World} {B : Nat} {v : Value} {js : List Jb} (h : OwnJ w B v js) : OwnJ w.drew B v js := h.below (Below.drew (Below.refl _ _))
theorem OwnJ.drewN {w : World} {B : Nat} {v : Value} {js : List Jb} (h : OwnJ w B v js) (k : Nat) : OwnJ (w.drewN k) B v js := h.below (bl_drewN (Below.refl _ _) k)
theorem gb_drewJ {a b : World} {row : Option Nat} (h : a.grownBy b row) : a.grownBy b.drew row := ⟨h.os, h.tape, h.output, h.size, h.block⟩
theorem gb_drewNJ {a b : World} {row : Option Nat} (h : a.grownBy b row) (n : Nat) : a.grownBy (b.drewN n) row := ⟨h.os, h.tape, h.output, h.size, h.block⟩
theorem gb_belowJ {a w : World} (h : Below a.heap.size a w) (row : Option Nat) : a.grownBy w row := ⟨h.os, h.tape, h.output, h.size, fun i hi _ => h.block i hi⟩
/-- A list of jobs of the call's own (from block B on) as the result; only the row written was there. -/
def JIns (js : List Jb) (B : Nat) (row : Option Nat) (w : World) (e : Ending) (w' : World) : Prop :=
  ∃ (A : Option Addr) (c : Nat), e = .returned (.slice A js.length c) ∧ OwnJ w' B (.slice A js.length c) js ∧ w.grownBy w' row
theorem OwnJ.none_ {w : World} {B n c : Nat} {js : List Jb} (h : OwnJ w B (.slice none n c) js) : n = 0 ∧ c = 0 ∧ js = [] := by
  rcases h.2 with ⟨e, h0⟩ | ⟨g, cap, cur, e, _⟩
  · injection e with e1 e2 e3
    exact ⟨e2, e3, List.eq_nil_of_length_eq_zero h0⟩
  · injection e with e1; cases e1
theorem OwnJ.some_form {w : World} {B n c : Nat} {a : Addr} {js : List Jb} (h : OwnJ w B (.slice (some a) n c) js) : ∃ g, a = ⟨g, 0, none⟩ := by
  rcases h.2 with ⟨e, h0⟩ | ⟨g, cap, cur, e, _⟩
  · injection e with e1; cases e1
  · injection e with e1; injection e1 with e1; exact ⟨g, e1⟩
theorem OwnJ.len_ {w : World} {B n c : Nat} {A : Option Addr} {js : List Jb} (h : OwnJ w B (.slice A n c) js) : n = js.length := h.reads.1
theorem jnews (w : World) (vb : Nat) (t : Jb) (hv : Blk w vb 38 #[.int .i64 t.ta, .int .i64 t.tm, .int .i64 t.ne]) : ∀ j u, t.cells[j]? = some u → w.cell? ((⟨vb, 0, none⟩ : Addr).add j) = some u := by
  intro j u hj
  have ea : (⟨vb, 0, none⟩ : Addr).add j = ⟨vb, j, none⟩ := by unfold Addr.add; split <;> simp_all
  rw [ea, hv.cell j, ← hj]
  simp [Jb.cells]
set_option maxHeartbeats 2000000 in
/-- Insert at the end. -/
theorem jinsert_end (w : World) (B n N vb : Nat) (A : Option Addr) (ts : List Jb) (t : Jb) (h : OwnJ w B (.slice A n N) ts) (hB : B ≤ w.heap.size) (hn : n ≤ 1048576)
    (hv : Blk w vb 38 #[.int .i64 t.ta, .int .i64 t.tm, .int .i64 t.ne]) :
    Calls Try.prog 72 #[.slice A n N, .int .i64 n, .slice (some ⟨vb, 0, none⟩) 1 1] w (JIns (ts ++ [t]) B (Value.slice A n N).ownBlock w) := by
  obtain ⟨i0, hi0, hz0, hz1, hz2⟩ := info_parts info_job
  have HV := Lib.hid (jnews w vb t hv)
  have HL := Lib.hid h.len_
  have HX := Lib.hid (jown_row h h.len_)
  have hle : n ≤ N := by have hl := h.len_; subst hl; exact h.le
  clear h hv
  by_cases hc : n = N
  · subst hc
    go_enter Try.func72, Try.ntmps72
    go_wp2_with (at_builtin; refine wpList_append_own _ rfl (.tmp 23) (.tmp 24) 26 rfl B 38 i0 _ 3 24 Try.underlying26 hi0 hz0 hz1 hz2 rfl (by decide) (.slice A n n) n (ts.flatMap Jb.cells) rfl HX.out ⟨vb, 0, none⟩ 1 1 t.cells rfl rfl HV.out (by intro u hu; exact jcells_one [t] u (by simpa using hu)) (by unfold maxLen; omega) (by omega) hB ?_; intro v2 w2 hown2 hgrow2 hiff2)
    have HO2 : Hid (OwnJ w2 B v2 (ts ++ [t])) := Lib.hid (OwnJ.snoc (by rw [← HL.out]; exact hown2))
    have HG := Lib.hid hgrow2
    clear hown2 hgrow2 hiff2
    obtain ⟨A2, c2, rfl⟩ := HO2.out.form
    go_wp2
    go_ret
    exact ⟨A2, c2, rfl, HO2.out, HG.out⟩
  · have hc1 : ¬ (N = n) := fun e => hc e.symm
    go_enter Try.func72, Try.ntmps72
    go_wp2_with (at_builtin; refine wpList_append_own _ rfl (.tmp 23) (.tmp 24) 26 rfl B 38 i0 _ 3 24 Try.underlying26 hi0 hz0 hz1 hz2 rfl (by decide) (.slice A n N) n (ts.flatMap Jb.cells) rfl HX.out ⟨vb, 0, none⟩ 1 1 t.cells rfl rfl HV.out (by intro u hu; exact jcells_one [t] u (by simpa using hu)) (by unfold maxLen; omega) (by omega) hB ?_; intro v2 w2 hown2 hgrow2 hiff2)
    have HO2 : Hid (OwnJ w2 B v2 (ts ++ [t])) := Lib.hid (OwnJ.snoc (by rw [← HL.out]; exact hown2))
    have HG := Lib.hid hgrow2
    clear hown2 hgrow2 hiff2
    obtain ⟨A2, c2, rfl⟩ := HO2.out.form
    go_wp2
    go_ret
    exact ⟨A2, c2, rfl, HO2.out, HG.out⟩
theorem jzero_size : (Try.prog.info? 38).map (fun i => (i.zero, i.size, i.bytes)) = some (some (.agg #[.int .i64 0, .int .i64 0, .int .i64 0]), 3, 24) := info_job
/-- The row behind the two copies, where a new one was made. -/
theorem ins_row_new {X Y Z O : List Value} {a b n : Nat} (hX : X.length = n) (ha : a ≤ n) (hY : Y.length = b) (hO : O = X.take a) (hZ : n - a + b ≤ Z.length) :
    (((((O ++ Z).take a ++ Y ++ (O ++ Z).drop (a + Y.length)).take (a + b)) ++ X.drop a ++ (((O ++ Z).take a ++ Y ++ (O ++ Z).drop (a + Y.length)).drop (a + b + (X.drop a).length))).take (n + b)) = X.take a ++ Y ++ X.drop a := by
  subst hO
  have htl : (X.take a).length = a := by rw [List.length_take]; omega
  have hdl : (X.drop a).length = n - a := by rw [List.length_drop, hX]
  have e1 : (X.take a ++ Z).take a = X.take a := by rw [List.take_append_of_le_length (by omega), List.take_of_length_le (by omega)]
  rw [e1]
  have e2 : ((X.take a ++ Y ++ (X.take a ++ Z).drop (a + Y.length)).take (a + b)) = X.take a ++ Y := by
    rw [List.take_append_of_le_length (by simp only [List.length_append]; omega), List.take_of_length_le (by simp only [List.length_append]; omega)]
  rw [e2, List.take_append_of_le_length (by simp only [List.length_append]; omega), List.take_of_length_le (by simp only [List.length_append]; omega)]
set_option maxRecDepth 100000 in
set_option maxHeartbeats 4000000 in
/-- Insert where there is no room. -/
theorem jinsert_grow (w : World) (B g n N i vb : Nat) (ts : List Jb) (t : Jb) (h : OwnJ w B (.slice (some ⟨g, 0, none⟩) n N) ts) (hN : N < n + 1) (hi : i < n) (hn5 : n ≤ 1048576) (hB : B ≤ w.heap.size)
    (hv : Blk w vb 38 #[.int .i64 t.ta, .int .i64 t.tm, .int .i64 t.ne]) :
    Calls Try.prog 72 #[.slice (some ⟨g, 0, none⟩) n N, .int .i64 i, .slice (some ⟨vb, 0, none⟩) 1 1] w (JIns (ts.take i ++ t :: ts.drop i) B (some g) w) := by
  obtain ⟨i0, hi0, hz0, hz1, hz2⟩ := info_parts info_job
  obtain ⟨hnl, hBg, cur, hcur, hnN, hNm, hcs, htk⟩ := jown_block h
  obtain rfl : N = n := by omega
  have hgl : g < w.heap.size := (World.ownsRow.lt h g rfl).2
  have hvl := hv.lt
  have hcl : (ts.flatMap Jb.cells).length = N * 3 := by rw [jcells_length, hnl]
  have hcell : ∀ j u, (ts.flatMap Jb.cells)[j]? = some u → w.cell? ⟨g, j, none⟩ = some u := by
    intro j u hu
    have hj : j < N * 3 := by have := (List.getElem?_eq_some_iff.1 hu).1; omega
    rw [cell_of_row w g j cur _ _ hcur, ← hu, ← htk, List.getElem?_take, if_pos hj]
    simp
  -- the new row
  have hfc : (Builtin.firstCells i0.size i (.slice (some ⟨g, 0, none⟩) i N)).run Try.prog w.drew = .ok ((ts.flatMap Jb.cells).take (i * 3)).toArray w.drew := by
    have hl := run_loadCells_list (P := Try.prog) w.drew ⟨g, 0, none⟩ ((ts.flatMap Jb.cells).take (i * 3)) (fun j u hj => by
      have ea : (⟨g, 0, none⟩ : Addr).add j = ⟨g, j, none⟩ := by unfold Addr.add; split <;> simp_all
      rw [ea]
      refine hcell j u ?_
      rw [List.getElem?_take] at hj
      split at hj
      · exact hj
      · cases hj)
    rw [show ((ts.flatMap Jb.cells).take (i * 3)).length = i * 3 by rw [List.length_take, hcl]; omega] at hl
    simp [Builtin.firstCells, hz1, hl]
  have hap0 := Lib.run_append_grow_zeros (P := Try.prog) w 26 3 26 38 i0 _ .i64 .i64 Try.underlying26 Try.underlying3 hi0 hz0 (some ⟨g, 0, none⟩) i N _ hfc (N + 1 - i) (by omega) (by omega) (by omega) (by omega) (by rw [hz2]; omega) (by
    have := nextslicecap_le (need := i + (N + 1 - i)) (old := N) (by omega)
    rw [hz2]; omega)
  rw [show i + (N + 1 - i) = N + 1 by omega] at hap0
  obtain ⟨G, hG⟩ : ∃ G, grownCap w (N + 1) N 38 = G := ⟨_, rfl⟩
  have hGge : N + 1 ≤ G := by rw [← hG]; exact grownCap_ge _ _ _ _
  have hGm : G ≤ maxLen := by rw [← hG]; exact grownCap_le_maxLen _ _ _ _ (by unfold maxLen; omega)
  rw [hG] at hap0
  obtain ⟨Z, hZ⟩ : ∃ Z : List Value, (Builtin.zeroCells (Value.agg #[.int .i64 0, .int .i64 0, .int .i64 0]).cells (N + 1 - i) ++ Builtin.zeroCells (Value.agg #[.int .i64 0, .int .i64 0, .int .i64 0]).cells (G - (N + 1))).toList = Z := ⟨_, rfl⟩
  have hZl : Z.length = (G - i) * 3 := by
    rw [← hZ, Array.length_toList, Array.size_append, size_zeroCells, size_zeroCells]
    show (N + 1 - i) * 3 + (G - (N + 1)) * 3 = (G - i) * 3
    omega
  obtain ⟨O, hO⟩ : ∃ O : List Value, O = (ts.flatMap Jb.cells).take (i * 3) := ⟨_, rfl⟩
  have hOl : O.length = i * 3 := by rw [hO, List.length_take, hcl]; omega
  rw [← hO, Array.append_assoc, show O.toArray ++ (Builtin.zeroCells (Value.agg #[.int .i64 0, .int .i64 0, .int .i64 0]).cells (N + 1 - i) ++ Builtin.zeroCells (Value.agg #[.int .i64 0, .int .i64 0, .int .i64 0]).cells (G - (N + 1))) = (O ++ Z).toArray by rw [← hZ]; simp, show (((N + 1 - i : Nat)) : Int) = (N : Int) + 1 - (i : Int) by omega] at hap0
  obtain ⟨W2, hW2⟩ : ∃ W2, W2 = w.drew.alloc (.cells (O ++ Z).toArray 38) := ⟨_, rfl⟩
  rw [← hW2] at hap0
  have hbW2 : Below w.heap.size w W2 := by rw [hW2]; exact bl_alloc (Below.drew (Below.refl _ _)) _
  have hgW2 : w.grownBy W2 (some g) := gb_belowJ hbW2 _
  have hcurN : W2.heap[w.heap.size]? = some (.cells (O ++ Z).toArray 38 (0, 0)) := by rw [hW2]; exact heap_alloc_new w.drew _
  have hOZl : (O ++ Z).length = G * 3 := by rw [List.length_append, hOl, hZl]; omega
  -- the first copy
  have hv2 : Blk W2 vb 38 #[.int .i64 t.ta, .int .i64 t.tm, .int .i64 t.ne] := hv.below hbW2 hvl
  obtain ⟨R1, hR1⟩ : ∃ R1 : List Value, R1 = (O ++ Z).take (i * 3) ++ t.cells ++ (O ++ Z).drop (i * 3 + t.cells.length) := ⟨_, rfl⟩
  have htc : t.cells.length = 3 := rfl
  have hcp1 : ∀ (ty : TypeId) (o1 l1 c1 : Nat), o1 = i * 3 → l1 = N + 1 - i →
      (Builtin.copy_ #[26, 26] ty #[.slice (some ⟨w.heap.size, o1, none⟩) l1 c1, .slice (some ⟨vb, 0, none⟩) 1 1]).run Try.prog W2 = .ok (goInt (1 : Nat)) (W2.setRow w.heap.size R1.toArray) := by
    intro ty o1 l1 c1 e1 e2
    subst e1 e2
    rw [hR1]
    have hx := run_copy_k W2 26 26 ty 38 3 w.heap.size (i * 3) (N + 1 - i) c1 ⟨vb, 0, none⟩ 1 1 1 (O ++ Z).toArray 38 t.cells Try.underlying26 jinfo_size hcurN (by simp only [Nat.min_def]; split <;> omega) rfl (jnews W2 vb t hv2)
      (by simp only [List.size_toArray, hOZl]; rw [htc]; omega) (fun u hu => jcells_one [t] u (by simpa using hu))
    simpa using hx
  obtain ⟨W3, hW3⟩ : ∃ W3, W3 = W2.setRow w.heap.size R1.toArray := ⟨_, rfl⟩
  rw [← hW3] at hcp1
  have hR1l : R1.length = G * 3 := by rw [hR1]; simp only [List.length_append, List.length_take, List.length_drop, hOZl, htc]; omega
  have hcurN3 : W3.heap[w.heap.size]? = some (.cells R1.toArray 38 (0, 0)) := by rw [hW3]; exact setRow_heap _ _ _ _ _ _ hcurN
  have hcur3 : W3.heap[g]? = some (.cells cur 38 (0, 0)) := by
    rw [hW3, setRow_other _ _ _ _ (by omega)]
    exact (hbW2.block g hgl).trans hcur
  have hgW3 : w.grownBy W3 (some g) := gb_trans hgW2 (by rw [hW3]; exact gb_setRow W2 w.heap.size _) (fun x e => .inr (by injection e with e; omega))
  -- the second copy
  obtain ⟨R2, hR2⟩ : ∃ R2 : List Value, R2 = R1.take (i * 3 + 3) ++ (ts.flatMap Jb.cells).drop (i * 3) ++ R1.drop (i * 3 + 3 + ((ts.flatMap Jb.cells).drop (i * 3)).length) := ⟨_, rfl⟩
  have hdl : ((ts.flatMap Jb.cells).drop (i * 3)).length = (N - i) * 3 := by rw [List.length_drop, hcl]; omega
  have hcp2 : ∀ (ty : TypeId) (o1 o2 l1 l2 c1 c2 : Nat), o1 = i * 3 + 3 → o2 = i * 3 → l1 = N - i → l2 = N - i →
      (Builtin.copy_ #[26, 26] ty #[.slice (some ⟨w.heap.size, o1, none⟩) l1 c1, .slice (some ⟨g, o2, none⟩) l2 c2]).run Try.prog W3.drew = .ok (goInt (N - i : Nat)) (W3.drew.setRow w.heap.size R2.toArray) := by
    intro ty o1 o2 l1 l2 c1 c2 e1 e2 e3 e4
    subst e1 e2 e3 e4
    rw [hR2]
    have hx := run_copy_k W3.drew 26 26 ty 38 3 w.heap.size (i * 3 + 3) (N - i) c1 ⟨g, i * 3, none⟩ (N - i) c2 (N - i) R1.toArray 38 ((ts.flatMap Jb.cells).drop (i * 3)) Try.underlying26 jinfo_size hcurN3 (by simp only [Nat.min_def]; split <;> omega) hdl
      (fun j u hj => by
        have ea : (⟨g, i * 3, none⟩ : Addr).add j = ⟨g, i * 3 + j, none⟩ := by unfold Addr.add; split <;> simp_all
        rw [ea]
        have hu : (ts.flatMap Jb.cells)[i * 3 + j]? = some u := by rwa [List.getElem?_drop] at hj
        have hjl : i * 3 + j < N * 3 := by have := (List.getElem?_eq_some_iff.1 hu).1; omega
        show W3.cell? _ = _
        rw [cell_of_row W3 g (i * 3 + j) cur _ _ hcur3, ← hu, ← htk, List.getElem?_take, if_pos hjl]
        simp) (by rw [hdl]; simp only [List.size_toArray, hR1l]; omega) (fun u hu => jcells_one ts u (List.mem_of_mem_drop hu))
    simpa using hx
  have hfin : R2.take ((N + 1) * 3) = (ts.take i ++ t :: ts.drop i).flatMap Jb.cells := by
    have hx := ins_row_new (X := ts.flatMap Jb.cells) (Y := t.cells) (Z := Z) (O := O) (a := i * 3) (b := 3) (n := N * 3) hcl (by omega) rfl hO (by rw [hZl]; omega)
    rw [← hR1, ← hR2] at hx
    rw [show (N + 1) * 3 = N * 3 + 3 by omega, hx, List.flatMap_append, List.flatMap_cons, jtake_cells, jdrop_cells, List.append_assoc]
  have hlen : (ts.take i ++ t :: ts.drop i).length = N + 1 := by simp; omega
  have hR2l : R2.length = G * 3 := by rw [hR2]; simp only [List.length_append, List.length_take, List.length_drop, hR1l, hcl]; omega
  have HF : Hid (JIns (ts.take i ++ t :: ts.drop i) B (some g) w (.returned (.slice (some ⟨w.heap.size, 0, none⟩) (N + 1) G)) (W3.drew.setRow w.heap.size R2.toArray)) := by
    refine Lib.hid ⟨some ⟨w.heap.size, 0, none⟩, G, by rw [hlen], ?_, ?_⟩
    · exact jown_of_block (cur := R2.toArray) hB (setRow_heap _ _ _ _ _ _ hcurN3) (by rw [hlen]; exact hGge) hGm (by simpa using hR2l) (by rw [hlen]; exact hfin)
    · exact gb_trans (b := W3) hgW3 (show W3.grownBy (W3.drew.setRow w.heap.size R2.toArray) (some w.heap.size) from ⟨rfl, rfl, rfl, by simp, fun k _ hk => setRow_other W3.drew w.heap.size k _ (fun e => hk (by rw [e]))⟩) (fun x e => .inr (by injection e with e; omega))
  have HC1 := Lib.hid hcp1
  have HC2 := Lib.hid hcp2
  have HAP := Lib.hid hap0
  unfold maxLen at hGm
  clear hcp1 hcp2 hap0 hfin hlen hR2l hR1l hR1 hR2 hcurN hcurN3 hcur3 hcell hdl hcl htk hcs hcur hnl hv h hW3 hW2 hgW3 hgW2 hbW2 hO hOl hZ hZl hOZl hG hfc hv2 hgl hvl htc hNm hnN
  have hw1 : IntKind.i64.wrap ((i : Int) + 1) = (i : Int) + 1 := by rw [IntKind.wrap_i64]; omega
  have hw2 : IntKind.i64.wrap ((N : Int) + 1 - (i : Int)) = (N : Int) + 1 - (i : Int) := by rw [IntKind.wrap_i64]; omega
  have hi0' : (0 : Int) ≤ (i : Int) + 1 := by omega
  have htn : ((i : Int) + 1).toNat = i + 1 := by omega
  have hb2 : ¬ (G = i + 1) := by omega
  have hb4 : ¬ (N = i) := by omega
  have hb5 : ¬ (G = i) := by omega
  have hne1 : ((i : Int) == (N : Int)) = false := by simp; omega
  have hb3 : (i : Int) ≤ (N : Int) + 1 := by omega
  have hin : i ≤ N := by omega
  have hin2 : i ≤ N + 1 := by omega
  go_enter Try.func72, Try.ntmps72
  go_wp2_with (first | (at_builtin; refine Lib.wpList_append_run _ rfl (.tmp 34) (.tmp 39) 26 3 rfl (.slice (some ⟨g, 0, none⟩) i N) (.int .i64 ((N : Int) + 1 - (i : Int))) rfl rfl _ _ HAP.out ?_) | (at_builtin; refine wpList_copy_run _ rfl (.tmp 43) (.tmp 44) 26 26 rfl (.slice (some ⟨w.heap.size, i * 3, none⟩) (N + 1 - i) (G - i)) (.slice (some ⟨vb, 0, none⟩) 1 1) rfl rfl (HC1.out _ _ _ _ rfl rfl) ?_) | (with_reducible refine wpList_copy_run _ rfl (.tmp 43) (.tmp 44) 26 26 rfl (.slice (some ⟨w.heap.size, i * 3, none⟩) (N + 1 - i) (G - i)) (.slice (some ⟨vb, 0, none⟩) 1 1) rfl rfl (HC1.out _ _ _ _ rfl rfl) ?_))
  go_region_law (refine step_copy_run rfl (.tmp 50) (.tmp 53) 26 26 rfl (.slice (some ⟨w.heap.size, (i + 1) * 3, none⟩) (N - i) (G - (i + 1))) (.slice (some ⟨g, i * 3, none⟩) (N - i) (N - i)) (by simp [Act.eval, Act.put]) (by simp [Act.eval, Act.put]) (HC2.out _ _ _ _ _ _ _ (by omega) (by omega) (by omega) (by omega)) ?_)
  go_wp2
  go_ret
  exact HF.out
end

section
/- Contracts of the program's PutJob and of what it calls. Nothing that was there is written. -/
open Go.RowKit
set_option linter.unusedVariables false

theorem jinsert_any (w : World) (B n N i vb : Nat) (A : Option Addr) (ts : List Jb) (t : Jb) (h : OwnJ w B (.slice A n N) ts) (hi : i ≤ n) (hB : B ≤ w.heap.size) (hn : n ≤ 1048576)
    (hne : ∀ g, (Value.slice A n N).ownBlock = some g → vb ≠ g) (hv : Blk w vb 38 #[.int .i64 t.ta, .int .i64 t.tm, .int .i64 t.ne]) :
    Calls Try.prog 72 #[.slice A n N, .int .i64 i, .slice (some ⟨vb, 0, none⟩) 1 1] w (JIns (ts.take i ++ t :: ts.drop i) B (Value.slice A n N).ownBlock w) := by
  have hl := h.len_
  by_cases he : i = n
  · subst he
    have e : ts.take i ++ t :: ts.drop i = ts ++ [t] := by rw [List.take_of_length_le (by omega), List.drop_eq_nil_of_le (by omega)]
    rw [e]
    exact jinsert_end w B i N vb A ts t h hB hn hv
  · obtain ⟨g, c, hv2⟩ := h.some_ (by omega)
    injection hv2 with hA _ _
    subst hA
    by_cases hN : n + 1 ≤ N
    · refine (jinsert_shift w B g n N i vb ts t h hN (by omega) (hne g rfl) hv hn).mono ?_
      rintro e w1 ⟨rfl, ho, hg⟩
      exact ⟨_, _, rfl, ho, hg⟩
    · exact jinsert_grow w B g n N i vb ts t h (by omega) (by omega) hn hB hv
theorem retJ {A : Option Addr} {a b c : Nat} (h : a = b) : Ending.returned (.slice A a c) = .returned (.slice A b c) := by rw [h]
theorem JIns.row {a b c : World} {row : Option Nat} (h : a.grownBy b row) (k : b.grownBy c row) : a.grownBy c row :=
  ⟨k.os.trans h.os, k.tape.trans h.tape, k.output.trans h.output, Nat.le_trans h.size k.size, fun i hi hne => (k.block i (Nat.lt_of_lt_of_le hi h.size) hne).trans (h.block i hi hne)⟩
set_option maxRecDepth 100000 in
set_option maxHeartbeats 2000000 in
theorem iClone_is (w : World) (A : Option Addr) (n c : Nat) (js : List Jb) (h : Jbs w w.heap.size A n js) (hn : n ≤ 1048576) :
    Calls Try.prog 55 #[.slice A n c] w (JsRes js w) := by
  obtain ⟨i0, hi0, hz0, hz1, hz2⟩ := info_parts info_job
  have hlen := h.len
  rcases A with _ | a
  · have hj : js = [] := by
      rcases js with _ | ⟨j, js⟩
      · rfl
      · obtain ⟨b, o, e, _⟩ := h.at_ 0 j rfl
        cases e
    subst hj
    clear h hlen
    have hnil := fun (w : World) => Lib.run_eql_slice_nil (P := Try.prog) w 26 38 none n c 0 0 Try.underlying26
    go_enter Try.func55, Try.ntmps55
    go_wp2
    go_ret
    exact ⟨none, 0, rfl, OwnJ.nil_ _ _, Below.refl _ _⟩
  · have hcl : (js.flatMap Jb.cells).length = n * 3 := by rw [jcells_length, hlen]
    have hnews : ∀ j u, (js.flatMap Jb.cells)[j]? = some u → (w.alloc (.cells #[] 38)).cell? (a.add j) = some u := by
      intro j u hu
      rcases js with _ | ⟨j0, js0⟩
      · simp at hu
      · obtain ⟨b, o, e, hb, _⟩ := h.at_ 0 j0 rfl
        injection e with e
        subst e
        have := h.cells3 j u hu
        rw [addr_add3] at *
        rwa [World.cell?_alloc_lt w _ ⟨b, o + j, none⟩ hb]
    have HN := Lib.hid hnews
    have HC := Lib.hid hcl
    have HL := Lib.hid hlen
    have hnil := fun (w : World) => Lib.run_eql_slice_nil (P := Try.prog) w 26 38 (some a) n c 0 0 Try.underlying26
    clear h hnews hcl hlen
    go_enter Try.func55, Try.ntmps55
    go_wp2_with (at_builtin; refine wpList_append_own _ rfl (.tmp 5) (.tmp 6) 26 rfl w.heap.size 38 i0 _ 3 24 Try.underlying26 hi0 hz0 hz1 hz2 rfl (by decide) (.slice (some ⟨w.heap.size, 0, none⟩) 0 0) 0 [] rfl (by exact OwnJ.empty w) a n c (js.flatMap Jb.cells) rfl HC.out HN.out (by intro u hu; exact jcells_one js u hu) (by unfold maxLen; omega) (by omega) (by simp) ?_; intro v2 w2 hown2 hgrow2 hiff2)
    have HO2 : Hid (OwnJ w2 w.heap.size v2 js) := Lib.hid (by
      have hh := hown2
      rw [Nat.zero_add, List.nil_append, ← HL.out] at hh
      exact hh)
    have HB2 := Lib.hid ((bl_alloc (Below.refl w.heap.size w) (.cells #[] 38)).grown hgrow2 (by simp) (fun k e => by have e2 : some w.heap.size = some k := e; injection e2 with e2; omega))
    clear hown2 hgrow2 hiff2
    obtain ⟨A2, c2, rfl⟩ := HO2.out.form
    go_wp2
    go_ret
    exact ⟨A2, c2, rfl, HO2.out, HB2.out⟩
set_option maxRecDepth 100000 in
set_option maxHeartbeats 8000000 in
theorem iInsJ_is (w : World) (B n N og : Nat) (A : Option Addr) (js : List Jb) (j : Jb) (h : OwnJ w B (.slice A n N) js) (hBw : B ≤ w.heap.size) (hn : n ≤ 60) (ho : OrdAt w og) :
    Calls Try.prog 54 #[.slice A n N, j.val, .func (.func 43) #[ordV og] #[]] w (JIns (putL j js) B (Value.slice A n N).ownBlock w) := by
  obtain ⟨ta, tm, ne⟩ := j
  have HX := Lib.hid h
  have HM := Lib.hid h.len_
  have J := Lib.hid h.reads.2
  have HO0 := Lib.hid ho
  clear h ho
  unfold Jb.val
  dsimp only
  go_enter Try.func54, Try.ntmps54
  go_wp2
  go_loopw [7] (fun i wr => ∃ q : Nat, q ≤ n ∧ i = .int .i64 q ∧ Hid (∀ a ∈ js.drop q, befB ⟨ta, tm, ne⟩ a = true) ∧ Hid (Blk wr w.heap.size 38 #[.int .i64 ta, .int .i64 tm, .int .i64 ne]) ∧ Hid (OrdAt wr og) ∧ Hid (Below w.heap.size w wr)) (fun i _ => (intOf i).toNat)
  case atStart => exact ⟨n, Nat.le_refl _, rfl, Lib.hid (by intro a ha; rw [List.drop_of_length_le (by have := HM.out; omega)] at ha; simp at ha), Lib.hid (Blk.new w _ _), Lib.hid (HO0.out.alloc _), Lib.hid (bl_alloc (Below.refl _ _) _)⟩
  case round =>
    obtain ⟨q, hq, rfl, HD, BJ, HOR, HB⟩ := hrel
    obtain ⟨w4, hw4⟩ : ∃ W, W = wr := ⟨_, rfl⟩
    subst hw4
    have hgl : w.heap.size < w4.heap.size := BJ.out.lt
    have x0 := BJ.out.cell 0
    have x1 := BJ.out.cell 1
    have x2 := BJ.out.cell 2
    by_cases hq0 : q = 0
    · subst hq0
      have HP := Lib.hid (show putAt ⟨ta, tm, ne⟩ js = 0 from putAt_is (Nat.zero_le _) HD.out (fun i hi => by omega))
      have HPL := Lib.hid (show putL ⟨ta, tm, ne⟩ js = js.take 0 ++ ⟨ta, tm, ne⟩ :: js.drop 0 by unfold putL; rw [HP.out])
      clear HD
      go_wp2_with fail
      refine wp_region_held_drew (S := (fun W => True)) (by kernel_rfl) (by trivial) (fun hHeld0 => ?_)
      refine wpAnyH_take (i := 0) (oi := { dst := some 10, op := Go.Op.move (Go.Operand.tmp 7), type := 3, pos := "l1_tasks.go:173", after := #[], guard := none }) (v := ?vu1x0) rfl (by kernel_rfl) (by kernel_rfl) (by kernel_rfl) (fun _ _ _ h => h) (Or.inl ⟨by rfl, ?hyu1x0⟩) hHeld0 ?restu1x0
      case hyu1x0 => first | (intro w hSw; (try dsimp only at hSw); go_simp; done) | (intro w hSw; (try dsimp only at hSw); go_simp; with_reducible rfl)
      (try simp only [Act.put, List.setIfInBounds_toArray, List.set_cons_zero, List.set_cons_succ])
      refine wpAnyH_take (i := 1) (oi := { dst := some 11, op := Go.Op.binOp Go.BinOp.gtr 3 (Go.Operand.tmp 10) (Go.Operand.const (Go.Value.int Go.IntKind.i64 0)) 3, type := 4, pos := "l1_tasks.go:173", after := #[{ on := 0, ground := Go.Ground.data }], guard := none }) (v := ?vu1x1) rfl (by kernel_rfl) (by kernel_rfl) (by kernel_rfl) (fun _ _ _ h => h) (Or.inl ⟨by rfl, ?hyu1x1⟩) hHeld0 ?restu1x1
      case hyu1x1 => first | (intro w hSw; (try dsimp only at hSw); go_simp; done) | (intro w hSw; (try dsimp only at hSw); go_simp; with_reducible rfl)
      (try simp only [Act.put, List.setIfInBounds_toArray, List.set_cons_zero, List.set_cons_succ])
      refine wpAnyH_take (i := 2) (oi := { dst := some 12, op := Go.Op.move (Go.Operand.tmp 11), type := 4, pos := "l1_tasks.go:173", after := #[{ on := 1, ground := Go.Ground.data }], guard := none }) (v := ?vu1x2) rfl (by kernel_rfl) (by kernel_rfl) (by kernel_rfl) (fun _ _ _ h => h) (Or.inl ⟨by rfl, ?hyu1x2⟩) hHeld0 ?restu1x2
      case hyu1x2 => first | (intro w hSw; (try dsimp only at hSw); go_simp; done) | (intro w hSw; (try dsimp only at hSw); go_simp; with_reducible rfl)
      (try simp only [Act.put, List.setIfInBounds_toArray, List.set_cons_zero, List.set_cons_succ])
      refine wpAnyH_take (i := 3) (oi := { dst := some 13, op := Go.Op.move (Go.Operand.tmp 2), type := 65, pos := "l1_tasks.go:173", after := #[{ on := 2, ground := Go.Ground.guard }], guard := some (2, true) }) (v := undef) rfl (by kernel_rfl) (by kernel_rfl) (by kernel_rfl) (fun _ _ _ h => h) (Or.inr ⟨by rfl, by rfl⟩) hHeld0 ?_
      (try simp only [Act.put, List.setIfInBounds_toArray, List.set_cons_zero, List.set_cons_succ])
      refine wpAnyH_take (i := 4) (oi := { dst := some 14, op := Go.Op.load 38 (Go.Operand.tmp 4), type := 38, pos := "l1_tasks.go:173", after := #[{ on := 2, ground := Go.Ground.guard }], guard := some (2, true) }) (v := undef) rfl (by kernel_rfl) (by kernel_rfl) (by kernel_rfl) (fun _ _ _ h => h) (Or.inr ⟨by rfl, by rfl⟩) hHeld0 ?_
      (try simp only [Act.put, List.setIfInBounds_toArray, List.set_cons_zero, List.set_cons_succ])
      refine wpAnyH_take (i := 5) (oi := { dst := some 15, op := Go.Op.move (Go.Operand.tmp 0), type := 26, pos := "l1_tasks.go:173", after := #[{ on := 2, ground := Go.Ground.guard }], guard := some (2, true) }) (v := undef) rfl (by kernel_rfl) (by kernel_rfl) (by kernel_rfl) (fun _ _ _ h => h) (Or.inr ⟨by rfl, by rfl⟩) hHeld0 ?_
      (try simp only [Act.put, List.setIfInBounds_toArray, List.set_cons_zero, List.set_cons_succ])
      refine wpAnyH_take (i := 6) (oi := { dst := some 16, op := Go.Op.move (Go.Operand.tmp 7), type := 3, pos := "l1_tasks.go:173", after := #[{ on := 2, ground := Go.Ground.guard }], guard := some (2, true) }) (v := undef) rfl (by kernel_rfl) (by kernel_rfl) (by kernel_rfl) (fun _ _ _ h => h) (Or.inr ⟨by rfl, by rfl⟩) hHeld0 ?_
      (try simp only [Act.put, List.setIfInBounds_toArray, List.set_cons_zero, List.set_cons_succ])
      refine wpAnyH_take (i := 7) (oi := { dst := some 17, op := Go.Op.binOp Go.BinOp.sub 3 (Go.Operand.tmp 16) (Go.Operand.const (Go.Value.int Go.IntKind.i64 1)) 3, type := 3, pos := "l1_tasks.go:173", after := #[{ on := 6, ground := Go.Ground.data }, { on := 2, ground := Go.Ground.guard }], guard := some (2, true) }) (v := undef) rfl (by kernel_rfl) (by kernel_rfl) (by kernel_rfl) (fun _ _ _ h => h) (Or.inr ⟨by rfl, by rfl⟩) hHeld0 ?_
      (try simp only [Act.put, List.setIfInBounds_toArray, List.set_cons_zero, List.set_cons_succ])
      refine wpAnyH_take (i := 8) (oi := { dst := some 18, op := Go.Op.indexAddr 26 (Go.Operand.tmp 15) (Go.Operand.tmp 17), type := 0, pos := "l1_tasks.go:173", after := #[{ on := 5, ground := Go.Ground.data }, { on := 7, ground := Go.Ground.data }, { on := 2, ground := Go.Ground.guard }], guard := some (2, true) }) (v := undef) rfl (by kernel_rfl) (by kernel_rfl) (by kernel_rfl) (fun _ _ _ h => h) (Or.inr ⟨by rfl, by rfl⟩) hHeld0 ?_
      (try simp only [Act.put, List.setIfInBounds_toArray, List.set_cons_zero, List.set_cons_succ])
      refine wpAnyH_take (i := 9) (oi := { dst := some 19, op := Go.Op.load 38 (Go.Operand.tmp 18), type := 38, pos := "l1_tasks.go:173", after := #[{ on := 8, ground := Go.Ground.data }, { on := 2, ground := Go.Ground.guard }], guard := some (2, true) }) (v := undef) rfl (by kernel_rfl) (by kernel_rfl) (by kernel_rfl) (fun _ _ _ h => h) (Or.inr ⟨by rfl, by rfl⟩) hHeld0 ?_
      (try simp only [Act.put, List.setIfInBounds_toArray, List.set_cons_zero, List.set_cons_succ])
      refine wpAnyH_take (i := 10) (oi := { dst := some 20, op := Go.Op.call { callee := Go.Callee.value (Go.Operand.tmp 13), args := #[Go.Operand.tmp 14, Go.Operand.tmp 19], argTypes := #[38, 38] }, type := 4, pos := "l1_tasks.go:173", after := #[{ on := 3, ground := Go.Ground.data }, { on := 4, ground := Go.Ground.data }, { on := 9, ground := Go.Ground.data }, { on := 2, ground := Go.Ground.chain }, { on := 2, ground := Go.Ground.guard }], guard := some (2, true) }) (v := undef) rfl (by kernel_rfl) (by kernel_rfl) (by kernel_rfl) (fun _ _ _ h => h) (Or.inr ⟨by rfl, by rfl⟩) hHeld0 ?_
      (try simp only [Act.put, List.setIfInBounds_toArray, List.set_cons_zero, List.set_cons_succ])
      refine wpAnyH_take (i := 11) (oi := { dst := some 21, op := Go.Op.pick (Go.Operand.tmp 12) (Go.Operand.tmp 20) (Go.Operand.const (Go.Value.bool false)), type := 4, pos := "l1_tasks.go:173", after := #[{ on := 2, ground := Go.Ground.data }, { on := 10, ground := Go.Ground.data }], guard := none }) (v := ?vu1x11) rfl (by kernel_rfl) (by kernel_rfl) (by kernel_rfl) (fun _ _ _ h => h) (Or.inl ⟨by rfl, ?hyu1x11⟩) hHeld0 ?restu1x11
      case hyu1x11 => first | (intro w hSw; (try dsimp only at hSw); go_simp; done) | (intro w hSw; (try dsimp only at hSw); go_simp; with_reducible rfl)
      (try simp only [Act.put, List.setIfInBounds_toArray, List.set_cons_zero, List.set_cons_succ])
      refine wpAnyH_done (by kernel_rfl) ?_ _
      go_wp2_with fail
      have HBW := Lib.hid (show Below w.heap.size w w4 from HB.out)
      refine (jinsert_any _ B n N 0 _ A js ⟨ta, tm, ne⟩ (by repeat (first | with_reducible exact HX.out.below HBW.out | refine OwnJ.drewN ?_ _ | refine OwnJ.drew ?_ | refine OwnJ.alloc ?_ _)) (by omega) (Nat.le_trans hBw (Below.size (by repeat (first | with_reducible exact HBW.out | refine bl_drewN ?_ _ | refine Below.drew ?_ | refine bl_alloc ?_ _) : Below w.heap.size w _))) (by omega) (fun g hg => by have h1 := (World.ownsRow.lt HX.out g hg).2; have h2 := HBW.out.size; omega) (by repeat (first | with_reducible exact Blk.new _ _ _ | refine Blk.drewN ?_ _ | refine Blk.drew ?_))).mono ?_
      rintro e w9 ⟨A9, c9, rfl, ho9, hg9⟩
      have HO9 := Lib.hid ho9
      have HG9 := Lib.hid hg9
      clear ho9 hg9
      go_wp2
      go_ret
      refine ⟨A9, c9, (by show Ending.returned _ = _; rw [HPL.out]; exact retJ (by first | rfl | simp | (simp; omega))), by rw [HPL.out]; exact HO9.out, ?_⟩
      refine JIns.row (gb_belowJ (by repeat (first | with_reducible exact HBW.out | refine bl_drewN ?_ _ | refine Below.drew ?_ | refine bl_alloc ?_ _) : Below w.heap.size w _) _) HG9.out
    obtain ⟨r, hr⟩ : ∃ r, q = r + 1 := ⟨q - 1, by omega⟩
    obtain ⟨pj, hpj⟩ : ∃ j, js[r]? = some j := ⟨js[r]'(by have := HM.out; omega), List.getElem?_eq_getElem _⟩
    obtain ⟨bj, oj, rfl, hbj, p0, p1, p2⟩ := (J.out.below HB.out).at_ r pj hpj
    have hbj4 : bj < w4.heap.size := by omega
    have HPJ := Lib.hid hpj
    have HQR := Lib.hid hr
    have q0 : (0 : Int) < (q : Int) := by omega
    have q00 : 0 < q := by omega
    have r0 : (0 : Int) ≤ (r : Int) := by omega
    have r1 : (r : Int) < (n : Int) := by omega
    have r2 : IntKind.i64.wrap ((q : Int) - 1) = (r : Int) := by rw [IntWalk.i64_in _ (by omega)]; omega
    clear hpj hr
    obtain ⟨pa, pm, pe⟩ := pj
    dsimp only at p0 p1 p2
    have x3 := p0
    have x4 := p1
    have x5 := p2
    clear p0 p1 p2
    cases hbf : befB ⟨ta, tm, ne⟩ ⟨pa, pm, pe⟩
    · have HBF := Lib.hid hbf
      have HP := Lib.hid (show putAt ⟨ta, tm, ne⟩ js = q from putAt_is (by have := HM.out; omega) HD.out (fun i hi a ha => by
        have hir : i = r := by have := HQR.out; omega
        rw [hir, HPJ.out] at ha
        rw [← Option.some.inj ha]
        exact HBF.out))
      have HPL := Lib.hid (show putL ⟨ta, tm, ne⟩ js = js.take q ++ ⟨ta, tm, ne⟩ :: js.drop q by unfold putL; rw [HP.out])
      clear hbf HD
      go_wp2_with fail
      refine wp_region_held_drew (S := (fun W => W.cell? ⟨w.heap.size, 0, none⟩ = some (.int .i64 ta) ∧ W.cell? ⟨w.heap.size, 1, none⟩ = some (.int .i64 tm) ∧ W.cell? ⟨w.heap.size, 2, none⟩ = some (.int .i64 ne) ∧ W.cell? ⟨bj, oj + r * 3, none⟩ = some (.int .i64 pa) ∧ W.cell? ⟨bj, oj + r * 3 + 1, none⟩ = some (.int .i64 pm) ∧ W.cell? ⟨bj, oj + r * 3 + 2, none⟩ = some (.int .i64 pe))) (by kernel_rfl) (by exact ⟨x0, x1, x2, x3, x4, x5⟩) (fun hHeld0 => ?_)
      refine wpAnyH_take (i := 0) (oi := { dst := some 10, op := Go.Op.move (Go.Operand.tmp 7), type := 3, pos := "l1_tasks.go:173", after := #[], guard := none }) (v := ?vu2x0) rfl (by kernel_rfl) (by kernel_rfl) (by kernel_rfl) (fun _ _ _ h => h) (Or.inl ⟨by rfl, ?hyu2x0⟩) hHeld0 ?restu2x0
      case hyu2x0 => first | (intro w hSw; (try dsimp only at hSw); go_simp; done) | (intro w hSw; (try dsimp only at hSw); go_simp; with_reducible rfl)
      (try simp only [Act.put, List.setIfInBounds_toArray, List.set_cons_zero, List.set_cons_succ])
      refine wpAnyH_take (i := 1) (oi := { dst := some 11, op := Go.Op.binOp Go.BinOp.gtr 3 (Go.Operand.tmp 10) (Go.Operand.const (Go.Value.int Go.IntKind.i64 0)) 3, type := 4, pos := "l1_tasks.go:173", after := #[{ on := 0, ground := Go.Ground.data }], guard := none }) (v := ?vu2x1) rfl (by kernel_rfl) (by kernel_rfl) (by kernel_rfl) (fun _ _ _ h => h) (Or.inl ⟨by rfl, ?hyu2x1⟩) hHeld0 ?restu2x1
      case hyu2x1 => first | (intro w hSw; (try dsimp only at hSw); go_simp; done) | (intro w hSw; (try dsimp only at hSw); go_simp; with_reducible rfl)
      (try simp only [Act.put, List.setIfInBounds_toArray, List.set_cons_zero, List.set_cons_succ])
      refine wpAnyH_take (i := 2) (oi := { dst := some 12, op := Go.Op.move (Go.Operand.tmp 11), type := 4, pos := "l1_tasks.go:173", after := #[{ on := 1, ground := Go.Ground.data }], guard := none }) (v := ?vu2x2) rfl (by kernel_rfl) (by kernel_rfl) (by kernel_rfl) (fun _ _ _ h => h) (Or.inl ⟨by rfl, ?hyu2x2⟩) hHeld0 ?restu2x2
      case hyu2x2 => first | (intro w hSw; (try dsimp only at hSw); go_simp; done) | (intro w hSw; (try dsimp only at hSw); go_simp; with_reducible rfl)
      (try simp only [Act.put, List.setIfInBounds_toArray, List.set_cons_zero, List.set_cons_succ])
      refine wpAnyH_take (i := 3) (oi := { dst := some 13, op := Go.Op.move (Go.Operand.tmp 2), type := 65, pos := "l1_tasks.go:173", after := #[{ on := 2, ground := Go.Ground.guard }], guard := some (2, true) }) (v := ?vu2x3) rfl (by kernel_rfl) (by kernel_rfl) (by kernel_rfl) (fun _ _ _ h => h) (Or.inl ⟨by rfl, ?hyu2x3⟩) hHeld0 ?restu2x3
      case hyu2x3 => first | (intro w hSw; (try dsimp only at hSw); go_simp; done) | (intro w hSw; (try dsimp only at hSw); go_simp; with_reducible rfl)
      (try simp only [Act.put, List.setIfInBounds_toArray, List.set_cons_zero, List.set_cons_succ])
      refine wpAnyH_take (i := 4) (oi := { dst := some 14, op := Go.Op.load 38 (Go.Operand.tmp 4), type := 38, pos := "l1_tasks.go:173", after := #[{ on := 2, ground := Go.Ground.guard }], guard := some (2, true) }) (v := ?vu2x4) rfl (by kernel_rfl) (by kernel_rfl) (by kernel_rfl) (fun _ _ _ h => h) (Or.inl ⟨by rfl, ?hyu2x4⟩) hHeld0 ?restu2x4
      case hyu2x4 => first | (intro w hSw; (try dsimp only at hSw); go_simp; done) | (intro w hSw; (try dsimp only at hSw); go_simp; with_reducible rfl)
      (try simp only [Act.put, List.setIfInBounds_toArray, List.set_cons_zero, List.set_cons_succ])
      refine wpAnyH_take (i := 5) (oi := { dst := some 15, op := Go.Op.move (Go.Operand.tmp 0), type := 26, pos := "l1_tasks.go:173", after := #[{ on := 2, ground := Go.Ground.guard }], guard := some (2, true) }) (v := ?vu2x5) rfl (by kernel_rfl) (by kernel_rfl) (by kernel_rfl) (fun _ _ _ h => h) (Or.inl ⟨by rfl, ?hyu2x5⟩) hHeld0 ?restu2x5
      case hyu2x5 => first | (intro w hSw; (try dsimp only at hSw); go_simp; done) | (intro w hSw; (try dsimp only at hSw); go_simp; with_reducible rfl)
      (try simp only [Act.put, List.setIfInBounds_toArray, List.set_cons_zero, List.set_cons_succ])
      refine wpAnyH_take (i := 6) (oi := { dst := some 16, op := Go.Op.move (Go.Operand.tmp 7), type := 3, pos := "l1_tasks.go:173", after := #[{ on := 2, ground := Go.Ground.guard }], guard := some (2, true) }) (v := ?vu2x6) rfl (by kernel_rfl) (by kernel_rfl) (by kernel_rfl) (fun _ _ _ h => h) (Or.inl ⟨by rfl, ?hyu2x6⟩) hHeld0 ?restu2x6
      case hyu2x6 => first | (intro w hSw; (try dsimp only at hSw); go_simp; done) | (intro w hSw; (try dsimp only at hSw); go_simp; with_reducible rfl)
      (try simp only [Act.put, List.setIfInBounds_toArray, List.set_cons_zero, List.set_cons_succ])
      refine wpAnyH_take (i := 7) (oi := { dst := some 17, op := Go.Op.binOp Go.BinOp.sub 3 (Go.Operand.tmp 16) (Go.Operand.const (Go.Value.int Go.IntKind.i64 1)) 3, type := 3, pos := "l1_tasks.go:173", after := #[{ on := 6, ground := Go.Ground.data }, { on := 2, ground := Go.Ground.guard }], guard := some (2, true) }) (v := ?vu2x7) rfl (by kernel_rfl) (by kernel_rfl) (by kernel_rfl) (fun _ _ _ h => h) (Or.inl ⟨by rfl, ?hyu2x7⟩) hHeld0 ?restu2x7
      case hyu2x7 => first | (intro w hSw; (try dsimp only at hSw); go_simp; done) | (intro w hSw; (try dsimp only at hSw); go_simp; with_reducible rfl)
      (try simp only [Act.put, List.setIfInBounds_toArray, List.set_cons_zero, List.set_cons_succ])
      refine wpAnyH_take (i := 8) (oi := { dst := some 18, op := Go.Op.indexAddr 26 (Go.Operand.tmp 15) (Go.Operand.tmp 17), type := 0, pos := "l1_tasks.go:173", after := #[{ on := 5, ground := Go.Ground.data }, { on := 7, ground := Go.Ground.data }, { on := 2, ground := Go.Ground.guard }], guard := some (2, true) }) (v := ?vu2x8) rfl (by kernel_rfl) (by kernel_rfl) (by kernel_rfl) (fun _ _ _ h => h) (Or.inl ⟨by rfl, ?hyu2x8⟩) hHeld0 ?restu2x8
      case hyu2x8 => first | (intro w hSw; (try dsimp only at hSw); go_simp; done) | (intro w hSw; (try dsimp only at hSw); go_simp; with_reducible rfl)
      (try simp only [Act.put, List.setIfInBounds_toArray, List.set_cons_zero, List.set_cons_succ])
      refine wpAnyH_take (i := 9) (oi := { dst := some 19, op := Go.Op.load 38 (Go.Operand.tmp 18), type := 38, pos := "l1_tasks.go:173", after := #[{ on := 8, ground := Go.Ground.data }, { on := 2, ground := Go.Ground.guard }], guard := some (2, true) }) (v := ?vu2x9) rfl (by kernel_rfl) (by kernel_rfl) (by kernel_rfl) (fun _ _ _ h => h) (Or.inl ⟨by rfl, ?hyu2x9⟩) hHeld0 ?restu2x9
      case hyu2x9 => first | (intro w hSw; (try dsimp only at hSw); go_simp; done) | (intro w hSw; (try dsimp only at hSw); go_simp; with_reducible rfl)
      (try simp only [Act.put, List.setIfInBounds_toArray, List.set_cons_zero, List.set_cons_succ])
      refine wpAnyH_ready (rs := [10]) (by kernel_rfl) (by simp) ?_
      refine AllReadyH.cons (o := { dst := some 20, op := Go.Op.call { callee := Go.Callee.value (Go.Operand.tmp 13), args := #[Go.Operand.tmp 14, Go.Operand.tmp 19], argTypes := #[38, 38] }, type := 4, pos := "l1_tasks.go:173", after := #[{ on := 3, ground := Go.Ground.data }, { on := 4, ground := Go.Ground.data }, { on := 9, ground := Go.Ground.data }, { on := 2, ground := Go.Ground.chain }, { on := 2, ground := Go.Ground.guard }], guard := some (2, true) }) rfl (fun K hK => ?_) AllReadyH.nil
      go_simp
      (go_at_call 43; refine (iBef_is _ og (by repeat (first | with_reducible exact HOR.out | with_reducible refine OrdAt.drewN ?_ _ | with_reducible refine OrdAt.drew ?_)) ⟨ta, tm, ne⟩ ⟨pa, pm, pe⟩ false HBF.out).mono ?_; rintro e w6 ⟨rfl, hb⟩; have HB6 := Lib.hid (show Below w4.heap.size w4 w6 from bl_trans (by repeat (first | with_reducible exact Below.refl _ _ | with_reducible refine bl_drewN ?_ _ | with_reducible refine Below.drew ?_)) hb); clear hb)
      (try go_wp2_with fail)
      refine hK.out _ _ (by exact ⟨(HB6.out.cell (p := ⟨w.heap.size, 0, none⟩) hgl).trans x0, (HB6.out.cell (p := ⟨w.heap.size, 1, none⟩) hgl).trans x1, (HB6.out.cell (p := ⟨w.heap.size, 2, none⟩) hgl).trans x2, (HB6.out.cell (p := ⟨bj, oj + r * 3, none⟩) hbj4).trans x3, (HB6.out.cell (p := ⟨bj, oj + r * 3 + 1, none⟩) hbj4).trans x4, (HB6.out.cell (p := ⟨bj, oj + r * 3 + 2, none⟩) hbj4).trans x5⟩) (fun hHeld1 => ?_)
      clear hK K
      (try simp only [Act.put, List.setIfInBounds_toArray, List.set_cons_zero, List.set_cons_succ])
      refine wpAnyH_take (i := 11) (oi := { dst := some 21, op := Go.Op.pick (Go.Operand.tmp 12) (Go.Operand.tmp 20) (Go.Operand.const (Go.Value.bool false)), type := 4, pos := "l1_tasks.go:173", after := #[{ on := 2, ground := Go.Ground.data }, { on := 10, ground := Go.Ground.data }], guard := none }) (v := ?vu2x11) rfl (by kernel_rfl) (by kernel_rfl) (by kernel_rfl) (fun _ _ _ h => h) (Or.inl ⟨by rfl, ?hyu2x11⟩) hHeld1 ?restu2x11
      case hyu2x11 => first | (intro w hSw; (try dsimp only at hSw); go_simp; done) | (intro w hSw; (try dsimp only at hSw); go_simp; with_reducible rfl)
      (try simp only [Act.put, List.setIfInBounds_toArray, List.set_cons_zero, List.set_cons_succ])
      refine wpAnyH_done (by kernel_rfl) ?_ _
      clear x0 x1 x2 x3 x4 x5
      have y0 := (BJ.out.below HB6.out hgl).cell 0
      have y1 := (BJ.out.below HB6.out hgl).cell 1
      have y2 := (BJ.out.below HB6.out hgl).cell 2
      go_wp2_with fail
      have HBW := Lib.hid (show Below w.heap.size w w6 from bl_trans HB.out HB6.out)
      refine (jinsert_any _ B n N q _ (some ⟨bj, oj, none⟩) js ⟨ta, tm, ne⟩ (by repeat (first | with_reducible exact HX.out.below HBW.out | refine OwnJ.drewN ?_ _ | refine OwnJ.drew ?_ | refine OwnJ.alloc ?_ _)) (by omega) (Nat.le_trans hBw (Below.size (by repeat (first | with_reducible exact HBW.out | refine bl_drewN ?_ _ | refine Below.drew ?_ | refine bl_alloc ?_ _) : Below w.heap.size w _))) (by omega) (fun g hg => by have h1 := (World.ownsRow.lt HX.out g hg).2; have h2 := HBW.out.size; omega) (by repeat (first | with_reducible exact Blk.new _ _ _ | refine Blk.drewN ?_ _ | refine Blk.drew ?_))).mono ?_
      rintro e w9 ⟨A9, c9, rfl, ho9, hg9⟩
      have HO9 := Lib.hid ho9
      have HG9 := Lib.hid hg9
      clear ho9 hg9
      go_wp2
      go_ret
      refine ⟨A9, c9, (by show Ending.returned _ = _; rw [HPL.out]; exact retJ (by first | rfl | simp | (simp; omega))), by rw [HPL.out]; exact HO9.out, ?_⟩
      refine JIns.row (gb_belowJ (by repeat (first | with_reducible exact HBW.out | refine bl_drewN ?_ _ | refine Below.drew ?_ | refine bl_alloc ?_ _) : Below w.heap.size w _) _) HG9.out
    · have HBF := Lib.hid hbf
      have HD2 := Lib.hid (show ∀ a ∈ js.drop r, befB ⟨ta, tm, ne⟩ a = true by
        intro a ha
        obtain ⟨hk, hk2⟩ := List.getElem?_eq_some_iff.1 HPJ.out
        rw [List.drop_eq_getElem_cons hk, hk2] at ha
        rcases List.mem_cons.1 ha with e | e
        · rw [e]; exact HBF.out
        · exact HD.out a (by rw [HQR.out]; exact e))
      clear hbf HD
      go_wp2_with fail
      refine wp_region_held_drew (S := (fun W => W.cell? ⟨w.heap.size, 0, none⟩ = some (.int .i64 ta) ∧ W.cell? ⟨w.heap.size, 1, none⟩ = some (.int .i64 tm) ∧ W.cell? ⟨w.heap.size, 2, none⟩ = some (.int .i64 ne) ∧ W.cell? ⟨bj, oj + r * 3, none⟩ = some (.int .i64 pa) ∧ W.cell? ⟨bj, oj + r * 3 + 1, none⟩ = some (.int .i64 pm) ∧ W.cell? ⟨bj, oj + r * 3 + 2, none⟩ = some (.int .i64 pe))) (by kernel_rfl) (by exact ⟨x0, x1, x2, x3, x4, x5⟩) (fun hHeld0 => ?_)
      refine wpAnyH_take (i := 0) (oi := { dst := some 10, op := Go.Op.move (Go.Operand.tmp 7), type := 3, pos := "l1_tasks.go:173", after := #[], guard := none }) (v := ?vu3x0) rfl (by kernel_rfl) (by kernel_rfl) (by kernel_rfl) (fun _ _ _ h => h) (Or.inl ⟨by rfl, ?hyu3x0⟩) hHeld0 ?restu3x0
      case hyu3x0 => first | (intro w hSw; (try dsimp only at hSw); go_simp; done) | (intro w hSw; (try dsimp only at hSw); go_simp; with_reducible rfl)
      (try simp only [Act.put, List.setIfInBounds_toArray, List.set_cons_zero, List.set_cons_succ])
      refine wpAnyH_take (i := 1) (oi := { dst := some 11, op := Go.Op.binOp Go.BinOp.gtr 3 (Go.Operand.tmp 10) (Go.Operand.const (Go.Value.int Go.IntKind.i64 0)) 3, type := 4, pos := "l1_tasks.go:173", after := #[{ on := 0, ground := Go.Ground.data }], guard := none }) (v := ?vu3x1) rfl (by kernel_rfl) (by kernel_rfl) (by kernel_rfl) (fun _ _ _ h => h) (Or.inl ⟨by rfl, ?hyu3x1⟩) hHeld0 ?restu3x1
      case hyu3x1 => first | (intro w hSw; (try dsimp only at hSw); go_simp; done) | (intro w hSw; (try dsimp only at hSw); go_simp; with_reducible rfl)
      (try simp only [Act.put, List.setIfInBounds_toArray, List.set_cons_zero, List.set_cons_succ])
      refine wpAnyH_take (i := 2) (oi := { dst := some 12, op := Go.Op.move (Go.Operand.tmp 11), type := 4, pos := "l1_tasks.go:173", after := #[{ on := 1, ground := Go.Ground.data }], guard := none }) (v := ?vu3x2) rfl (by kernel_rfl) (by kernel_rfl) (by kernel_rfl) (fun _ _ _ h => h) (Or.inl ⟨by rfl, ?hyu3x2⟩) hHeld0 ?restu3x2
      case hyu3x2 => first | (intro w hSw; (try dsimp only at hSw); go_simp; done) | (intro w hSw; (try dsimp only at hSw); go_simp; with_reducible rfl)
      (try simp only [Act.put, List.setIfInBounds_toArray, List.set_cons_zero, List.set_cons_succ])
      refine wpAnyH_take (i := 3) (oi := { dst := some 13, op := Go.Op.move (Go.Operand.tmp 2), type := 65, pos := "l1_tasks.go:173", after := #[{ on := 2, ground := Go.Ground.guard }], guard := some (2, true) }) (v := ?vu3x3) rfl (by kernel_rfl) (by kernel_rfl) (by kernel_rfl) (fun _ _ _ h => h) (Or.inl ⟨by rfl, ?hyu3x3⟩) hHeld0 ?restu3x3
      case hyu3x3 => first | (intro w hSw; (try dsimp only at hSw); go_simp; done) | (intro w hSw; (try dsimp only at hSw); go_simp; with_reducible rfl)
      (try simp only [Act.put, List.setIfInBounds_toArray, List.set_cons_zero, List.set_cons_succ])
      refine wpAnyH_take (i := 4) (oi := { dst := some 14, op := Go.Op.load 38 (Go.Operand.tmp 4), type := 38, pos := "l1_tasks.go:173", after := #[{ on := 2, ground := Go.Ground.guard }], guard := some (2, true) }) (v := ?vu3x4) rfl (by kernel_rfl) (by kernel_rfl) (by kernel_rfl) (fun _ _ _ h => h) (Or.inl ⟨by rfl, ?hyu3x4⟩) hHeld0 ?restu3x4
      case hyu3x4 => first | (intro w hSw; (try dsimp only at hSw); go_simp; done) | (intro w hSw; (try dsimp only at hSw); go_simp; with_reducible rfl)
      (try simp only [Act.put, List.setIfInBounds_toArray, List.set_cons_zero, List.set_cons_succ])
      refine wpAnyH_take (i := 5) (oi := { dst := some 15, op := Go.Op.move (Go.Operand.tmp 0), type := 26, pos := "l1_tasks.go:173", after := #[{ on := 2, ground := Go.Ground.guard }], guard := some (2, true) }) (v := ?vu3x5) rfl (by kernel_rfl) (by kernel_rfl) (by kernel_rfl) (fun _ _ _ h => h) (Or.inl ⟨by rfl, ?hyu3x5⟩) hHeld0 ?restu3x5
      case hyu3x5 => first | (intro w hSw; (try dsimp only at hSw); go_simp; done) | (intro w hSw; (try dsimp only at hSw); go_simp; with_reducible rfl)
      (try simp only [Act.put, List.setIfInBounds_toArray, List.set_cons_zero, List.set_cons_succ])
      refine wpAnyH_take (i := 6) (oi := { dst := some 16, op := Go.Op.move (Go.Operand.tmp 7), type := 3, pos := "l1_tasks.go:173", after := #[{ on := 2, ground := Go.Ground.guard }], guard := some (2, true) }) (v := ?vu3x6) rfl (by kernel_rfl) (by kernel_rfl) (by kernel_rfl) (fun _ _ _ h => h) (Or.inl ⟨by rfl, ?hyu3x6⟩) hHeld0 ?restu3x6
      case hyu3x6 => first | (intro w hSw; (try dsimp only at hSw); go_simp; done) | (intro w hSw; (try dsimp only at hSw); go_simp; with_reducible rfl)
      (try simp only [Act.put, List.setIfInBounds_toArray, List.set_cons_zero, List.set_cons_succ])
      refine wpAnyH_take (i := 7) (oi := { dst := some 17, op := Go.Op.binOp Go.BinOp.sub 3 (Go.Operand.tmp 16) (Go.Operand.const (Go.Value.int Go.IntKind.i64 1)) 3, type := 3, pos := "l1_tasks.go:173", after := #[{ on := 6, ground := Go.Ground.data }, { on := 2, ground := Go.Ground.guard }], guard := some (2, true) }) (v := ?vu3x7) rfl (by kernel_rfl) (by kernel_rfl) (by kernel_rfl) (fun _ _ _ h => h) (Or.inl ⟨by rfl, ?hyu3x7⟩) hHeld0 ?restu3x7
      case hyu3x7 => first | (intro w hSw; (try dsimp only at hSw); go_simp; done) | (intro w hSw; (try dsimp only at hSw); go_simp; with_reducible rfl)
      (try simp only [Act.put, List.setIfInBounds_toArray, List.set_cons_zero, List.set_cons_succ])
      refine wpAnyH_take (i := 8) (oi := { dst := some 18, op := Go.Op.indexAddr 26 (Go.Operand.tmp 15) (Go.Operand.tmp 17), type := 0, pos := "l1_tasks.go:173", after := #[{ on := 5, ground := Go.Ground.data }, { on := 7, ground := Go.Ground.data }, { on := 2, ground := Go.Ground.guard }], guard := some (2, true) }) (v := ?vu3x8) rfl (by kernel_rfl) (by kernel_rfl) (by kernel_rfl) (fun _ _ _ h => h) (Or.inl ⟨by rfl, ?hyu3x8⟩) hHeld0 ?restu3x8
      case hyu3x8 => first | (intro w hSw; (try dsimp only at hSw); go_simp; done) | (intro w hSw; (try dsimp only at hSw); go_simp; with_reducible rfl)
      (try simp only [Act.put, List.setIfInBounds_toArray, List.set_cons_zero, List.set_cons_succ])
      refine wpAnyH_take (i := 9) (oi := { dst := some 19, op := Go.Op.load 38 (Go.Operand.tmp 18), type := 38, pos := "l1_tasks.go:173", after := #[{ on := 8, ground := Go.Ground.data }, { on := 2, ground := Go.Ground.guard }], guard := some (2, true) }) (v := ?vu3x9) rfl (by kernel_rfl) (by kernel_rfl) (by kernel_rfl) (fun _ _ _ h => h) (Or.inl ⟨by rfl, ?hyu3x9⟩) hHeld0 ?restu3x9
      case hyu3x9 => first | (intro w hSw; (try dsimp only at hSw); go_simp; done) | (intro w hSw; (try dsimp only at hSw); go_simp; with_reducible rfl)
      (try simp only [Act.put, List.setIfInBounds_toArray, List.set_cons_zero, List.set_cons_succ])
      refine wpAnyH_ready (rs := [10]) (by kernel_rfl) (by simp) ?_
      refine AllReadyH.cons (o := { dst := some 20, op := Go.Op.call { callee := Go.Callee.value (Go.Operand.tmp 13), args := #[Go.Operand.tmp 14, Go.Operand.tmp 19], argTypes := #[38, 38] }, type := 4, pos := "l1_tasks.go:173", after := #[{ on := 3, ground := Go.Ground.data }, { on := 4, ground := Go.Ground.data }, { on := 9, ground := Go.Ground.data }, { on := 2, ground := Go.Ground.chain }, { on := 2, ground := Go.Ground.guard }], guard := some (2, true) }) rfl (fun K hK => ?_) AllReadyH.nil
      go_simp
      (go_at_call 43; refine (iBef_is _ og (by repeat (first | with_reducible exact HOR.out | with_reducible refine OrdAt.drewN ?_ _ | with_reducible refine OrdAt.drew ?_)) ⟨ta, tm, ne⟩ ⟨pa, pm, pe⟩ true HBF.out).mono ?_; rintro e w6 ⟨rfl, hb⟩; have HB6 := Lib.hid (show Below w4.heap.size w4 w6 from bl_trans (by repeat (first | with_reducible exact Below.refl _ _ | with_reducible refine bl_drewN ?_ _ | with_reducible refine Below.drew ?_)) hb); clear hb)
      (try go_wp2_with fail)
      refine hK.out _ _ (by exact ⟨(HB6.out.cell (p := ⟨w.heap.size, 0, none⟩) hgl).trans x0, (HB6.out.cell (p := ⟨w.heap.size, 1, none⟩) hgl).trans x1, (HB6.out.cell (p := ⟨w.heap.size, 2, none⟩) hgl).trans x2, (HB6.out.cell (p := ⟨bj, oj + r * 3, none⟩) hbj4).trans x3, (HB6.out.cell (p := ⟨bj, oj + r * 3 + 1, none⟩) hbj4).trans x4, (HB6.out.cell (p := ⟨bj, oj + r * 3 + 2, none⟩) hbj4).trans x5⟩) (fun hHeld1 => ?_)
      clear hK K
      (try simp only [Act.put, List.setIfInBounds_toArray, List.set_cons_zero, List.set_cons_succ])
      refine wpAnyH_take (i := 11) (oi := { dst := some 21, op := Go.Op.pick (Go.Operand.tmp 12) (Go.Operand.tmp 20) (Go.Operand.const (Go.Value.bool false)), type := 4, pos := "l1_tasks.go:173", after := #[{ on := 2, ground := Go.Ground.data }, { on := 10, ground := Go.Ground.data }], guard := none }) (v := ?vu3x11) rfl (by kernel_rfl) (by kernel_rfl) (by kernel_rfl) (fun _ _ _ h => h) (Or.inl ⟨by rfl, ?hyu3x11⟩) hHeld1 ?restu3x11
      case hyu3x11 => first | (intro w hSw; (try dsimp only at hSw); go_simp; done) | (intro w hSw; (try dsimp only at hSw); go_simp; with_reducible rfl)
      (try simp only [Act.put, List.setIfInBounds_toArray, List.set_cons_zero, List.set_cons_succ])
      refine wpAnyH_done (by kernel_rfl) ?_ _
      have BJ6 := Lib.hid (BJ.out.below HB6.out hgl)
      have HOR6 := Lib.hid (HOR.out.below HB6.out)
      have HW6 := Lib.hid (bl_trans HB.out HB6.out)
      go_wp2
      go_roundw
      case rel => exact ⟨r, by omega, by go_num, HD2, Lib.hid (by repeat (first | exact BJ6.out | refine Blk.drewN ?_ _ | refine Blk.drew ?_)), Lib.hid (by repeat (first | exact HOR6.out | refine OrdAt.drewN ?_ _ | refine OrdAt.drew ?_)), Lib.hid (by repeat (first | exact HW6.out | refine bl_drewN ?_ _ | refine Below.drew ?_))⟩
      case measure => have hqr := HQR.out; simp [intOf]; omega
set_option maxRecDepth 100000 in
set_option maxHeartbeats 8000000 in
theorem iPut_is (w : World) (A : Option Addr) (n c : Nat) (ts : List Tk) (h : Tks w w.heap.size A n ts) (hn : n ≤ 1048576) (A2 : Option Addr) (m c2 : Nat) (js : List Jb) (h2 : Jbs w w.heap.size A2 m js) (j : Jb) (b : Bool) (hb : putB ts js j = b) :
    Calls Try.prog 22 #[.slice A n c, .slice A2 m c2, j.val] w (JsRes2 (putV ts js j) b w) := by
  have H := Lib.hid h
  have J := Lib.hid h2
  have HM := Lib.hid h2.len
  clear h h2
  obtain ⟨ta, tm, ne⟩ := j
  cases h1 : jobsB ts js
  · obtain rfl : b = false := by rw [← hb]; unfold putB; rw [h1]; rfl
    have hpv : putV ts js ⟨ta, tm, ne⟩ = [] := by unfold putV; rw [hb]; rfl
    rw [hpv]
    have HJ1 := Lib.hid h1
    clear hb h1 hpv
    unfold Jb.val
    go_enter Try.func22, Try.ntmps22
    go_wp2_with fail
    refine (iJobs_is _ A n c ts ((H.out.below (bl_alloc (Below.refl w.heap.size w) _)).more (by simp)) hn _ m c2 js ((J.out.below (bl_alloc (Below.refl w.heap.size w) _)).more (by simp)) false HJ1.out).mono ?_
    rintro e w1 ⟨rfl, hb⟩
    have HB1 := Lib.hid (show Below w.heap.size w w1 from bl_trans (bl_alloc (Below.refl w.heap.size w) _) hb)
    clear hb
    go_wp2
    go_ret2
    exact ⟨none, 0, rfl, OwnJ.nil_ _ _, HB1.out⟩
  have hm60 : m ≤ 60 := by have := jobs_len h1; rw [HM.out] at this; exact this
  have HJ1 := Lib.hid h1
  have HR := Lib.hid hb
  clear h1 hb
  unfold Jb.val
  go_enter Try.func22, Try.ntmps22
  go_wp2_with fail
  refine (iJobs_is _ A n c ts ((H.out.below (bl_alloc (Below.refl w.heap.size w) _)).more (by simp)) hn _ m c2 js ((J.out.below (bl_alloc (Below.refl w.heap.size w) _)).more (by simp)) true HJ1.out).mono ?_
  rintro e w1 ⟨rfl, hb⟩
  have HB1 := Lib.hid (show Below w.heap.size w w1 from bl_trans (bl_alloc (Below.refl w.heap.size w) _) hb)
  have BJ1 := Lib.hid ((Blk.new w 38 #[.int .i64 ta, .int .i64 tm, .int .i64 ne]).below hb (by simp))
  clear hb
  have p0 := BJ1.out.cell 0
  have p1 := BJ1.out.cell 1
  have p2 := BJ1.out.cell 2
  have TOK0 : True := trivial
  go_wp2
  go_region_held3 (fun W => W.cell? ⟨w.heap.size, 0, none⟩ = some (.int .i64 ta) ∧ W.cell? ⟨w.heap.size, 1, none⟩ = some (.int .i64 tm) ∧ W.cell? ⟨w.heap.size, 2, none⟩ = some (.int .i64 ne)) (first | assumption | (simp [go_sem, *]; done))
    ((first
      | (have uu := TOK0; clear uu; go_at_call 55; refine (iClone_is _ A2 m c2 js ((J.out.below (by repeat (first | with_reducible exact HB1.out | with_reducible refine Below.drew ?_ | with_reducible refine bl_drewN ?_ _ | with_reducible refine bl_alloc ?_ _))).more (Below.size ((by repeat (first | with_reducible exact HB1.out | with_reducible refine Below.drew ?_ | with_reducible refine bl_drewN ?_ _ | with_reducible refine bl_alloc ?_ _)) : Below w.heap.size w _))) (by omega)).mono ?_; rintro e w2 ⟨Ac, cc, rfl, hoc, hbc⟩; have HD := Lib.hid (show Below w1.heap.size w1 w2 from bl_trans (by repeat (first | with_reducible exact Below.refl _ _ | with_reducible refine bl_drewN ?_ _ | with_reducible refine Below.drew ?_)) hbc); have HOC := Lib.hid (show OwnJ w2 (w.heap.size + 1) (.slice Ac js.length cc) js from OwnJ.less hoc (Nat.le_trans BJ1.out.lt (Below.size ((by repeat (first | with_reducible exact Below.refl _ _ | with_reducible refine bl_drewN ?_ _ | with_reducible refine Below.drew ?_)) : Below w1.heap.size w1 _)))); have BJ2 := Lib.hid (BJ1.out.below HD.out BJ1.out.lt); have q0 := BJ2.out.cell 0; have q1 := BJ2.out.cell 1; have q2 := BJ2.out.cell 2; have TOKC := TOK0; clear TOK0 hoc hbc p0 p1 p2)
      | (have uu := TOK0; clear uu; go_at_call 42; refine (iOrder_is _).mono ?_; rintro e w2 ⟨og, rfl, hor, hge, hbc⟩; have HD := Lib.hid (show Below w1.heap.size w1 w2 from bl_trans (by repeat (first | with_reducible exact Below.refl _ _ | with_reducible refine bl_drewN ?_ _ | with_reducible refine Below.drew ?_)) hbc); have HOR := Lib.hid hor; have BJ2 := Lib.hid (BJ1.out.below HD.out BJ1.out.lt); have q0 := BJ2.out.cell 0; have q1 := BJ2.out.cell 1; have q2 := BJ2.out.cell 2; have TOKO := TOK0; clear TOK0 hor hge hbc p0 p1 p2)
      | (have uu := TOKC; clear uu; go_at_call 42; refine (iOrder_is _).mono ?_; rintro e w3 ⟨og, rfl, hor, hge, hbc⟩; have HD3 := Lib.hid (show Below w1.heap.size w1 w3 from bl_trans (by repeat (first | with_reducible exact HD.out | with_reducible refine bl_drewN ?_ _ | with_reducible refine Below.drew ?_)) hbc); have HOR3 := Lib.hid hor; have HOC3 := Lib.hid (show OwnJ w3 (w.heap.size + 1) (.slice Ac js.length cc) js from OwnJ.below (by repeat (first | with_reducible exact HOC.out | with_reducible refine OwnJ.drewN ?_ _ | with_reducible refine OwnJ.drew ?_)) hbc); have BJ3 := Lib.hid (BJ1.out.below HD3.out BJ1.out.lt); have r0 := BJ3.out.cell 0; have r1 := BJ3.out.cell 1; have r2 := BJ3.out.cell 2; have TOK3 := TOKC; clear TOKC hor hge hbc q0 q1 q2 HOC HD BJ2)
      | (have uu := TOKO; clear uu; go_at_call 55; refine (iClone_is _ A2 m c2 js ((J.out.below (bl_trans HB1.out ((by repeat (first | with_reducible exact HD.out | with_reducible refine bl_drewN ?_ _ | with_reducible refine Below.drew ?_)) : Below w1.heap.size w1 _) : Below w.heap.size w _)).more (Below.size (bl_trans HB1.out ((by repeat (first | with_reducible exact HD.out | with_reducible refine bl_drewN ?_ _ | with_reducible refine Below.drew ?_)) : Below w1.heap.size w1 _) : Below w.heap.size w _))) (by omega)).mono ?_; rintro e w3 ⟨Ac, cc, rfl, hoc, hbc⟩; have HD3 := Lib.hid (show Below w1.heap.size w1 w3 from bl_trans (by repeat (first | with_reducible exact HD.out | with_reducible refine bl_drewN ?_ _ | with_reducible refine Below.drew ?_)) hbc); have HOC3 := Lib.hid (show OwnJ w3 (w.heap.size + 1) (.slice Ac js.length cc) js from OwnJ.less hoc (Nat.le_trans BJ1.out.lt (Below.size ((by repeat (first | with_reducible exact HD.out | with_reducible refine bl_drewN ?_ _ | with_reducible refine Below.drew ?_)) : Below w1.heap.size w1 _)))); have HOR3 := Lib.hid (show OrdAt w3 og from OrdAt.below (by repeat (first | with_reducible exact HOR.out | with_reducible refine OrdAt.drewN ?_ _ | with_reducible refine OrdAt.drew ?_)) hbc); have BJ3 := Lib.hid (BJ1.out.below HD3.out BJ1.out.lt); have r0 := BJ3.out.cell 0; have r1 := BJ3.out.cell 1; have r2 := BJ3.out.cell 2; have TOK3 := TOKO; clear TOKO hoc hbc q0 q1 q2 HOR HD BJ2)
      | (have uu := TOK3; clear uu; go_at_call 54; refine (iInsJ_is _ (w.heap.size + 1) js.length cc og Ac js ⟨ta, tm, ne⟩ (by repeat (first | with_reducible exact HOC3.out | with_reducible refine OwnJ.drewN ?_ _ | with_reducible refine OwnJ.drew ?_)) (Nat.le_trans BJ1.out.lt (Below.size ((by repeat (first | with_reducible exact HD3.out | with_reducible refine bl_drewN ?_ _ | with_reducible refine Below.drew ?_)) : Below w1.heap.size w1 _))) (by have := HM.out; omega) (by repeat (first | with_reducible exact HOR3.out | with_reducible refine OrdAt.drewN ?_ _ | with_reducible refine OrdAt.drew ?_))).mono ?_; rintro e w4 ⟨Ap, cp, rfl, ho4, hg4⟩; have HD4 := Lib.hid (show Below w.heap.size w w4 from Below.grown (bl_trans HB1.out (by repeat (first | with_reducible exact HD3.out | with_reducible refine bl_drewN ?_ _ | with_reducible refine Below.drew ?_))) hg4 (Nat.le_trans (Below.size HB1.out) (Below.size ((by repeat (first | with_reducible exact HD3.out | with_reducible refine bl_drewN ?_ _ | with_reducible refine Below.drew ?_)) : Below w1.heap.size w1 _))) (fun k e => Nat.le_of_succ_le (World.ownsRow.lt HOC3.out k e).1)); have HO4 := Lib.hid ho4; have BJ4 := Lib.hid (show Blk w4 w.heap.size 38 #[.int .i64 ta, .int .i64 tm, .int .i64 ne] from Blk.grown (by repeat (first | with_reducible exact BJ3.out | with_reducible refine Blk.drewN ?_ _ | with_reducible refine Blk.drew ?_)) hg4 (by intro e; have := (World.ownsRow.lt HOC3.out _ e.symm).1; omega)); have s0 := BJ4.out.cell 0; have s1 := BJ4.out.cell 1; have s2 := BJ4.out.cell 2; clear TOK3 ho4 hg4 r0 r1 r2)))
  all_goals
    have HPLEN := Lib.hid (show (putL ⟨ta, tm, ne⟩ js).length = js.length + 1 from putL_len _ _)
    cases hjb : jobsB ts (putL ⟨ta, tm, ne⟩ js)
    · have HJB := Lib.hid hjb
      obtain rfl : b = false := by rw [← HR.out]; unfold putB; rw [hjb]; simp
      have HPV := Lib.hid (show putV ts js ⟨ta, tm, ne⟩ = [] by unfold putV; rw [HR.out]; rfl)
      clear hjb
      go_wp2_with fail
      refine (iJobs_is _ A n c ts ((H.out.below ((by repeat (first | with_reducible exact HD4.out | with_reducible refine Below.drew ?_ | with_reducible refine bl_drewN ?_ _ | with_reducible refine bl_alloc ?_ _)) : Below w.heap.size w _)).more (Below.size ((by repeat (first | with_reducible exact HD4.out | with_reducible refine Below.drew ?_ | with_reducible refine bl_drewN ?_ _ | with_reducible refine bl_alloc ?_ _)) : Below w.heap.size w _))) hn Ap (putL ⟨ta, tm, ne⟩ js).length cp (putL ⟨ta, tm, ne⟩ js) (by repeat (first | with_reducible exact HO4.out.reads.2 | with_reducible refine OwnJ.drewN ?_ _ | with_reducible refine OwnJ.drew ?_)) false HJB.out).mono ?_
      rintro e w5 ⟨rfl, hb⟩
      have HB5 := Lib.hid (show Below w.heap.size w w5 from bl_trans (by repeat (first | with_reducible exact HD4.out | with_reducible refine Below.drew ?_ | with_reducible refine bl_drewN ?_ _ | with_reducible refine bl_alloc ?_ _)) hb)
      clear hb
      go_wp2
      go_ret2
      rw [HPV.out]
      exact ⟨none, 0, rfl, OwnJ.nil_ _ _, HB5.out⟩
    · have HJB := Lib.hid hjb
      obtain rfl : b = true := by rw [← HR.out]; unfold putB; rw [hjb, HJ1.out]; rfl
      have HPV := Lib.hid (show putV ts js ⟨ta, tm, ne⟩ = putL ⟨ta, tm, ne⟩ js by unfold putV; rw [HR.out]; rfl)
      clear hjb
      go_wp2_with fail
      refine (iJobs_is _ A n c ts ((H.out.below ((by repeat (first | with_reducible exact HD4.out | with_reducible refine Below.drew ?_ | with_reducible refine bl_drewN ?_ _ | with_reducible refine bl_alloc ?_ _)) : Below w.heap.size w _)).more (Below.size ((by repeat (first | with_reducible exact HD4.out | with_reducible refine Below.drew ?_ | with_reducible refine bl_drewN ?_ _ | with_reducible refine bl_alloc ?_ _)) : Below w.heap.size w _))) hn Ap (putL ⟨ta, tm, ne⟩ js).length cp (putL ⟨ta, tm, ne⟩ js) (by repeat (first | with_reducible exact HO4.out.reads.2 | with_reducible refine OwnJ.drewN ?_ _ | with_reducible refine OwnJ.drew ?_)) true HJB.out).mono ?_
      rintro e w5 ⟨rfl, hb⟩
      have HB5 := Lib.hid (show Below w.heap.size w w5 from bl_trans (by repeat (first | with_reducible exact HD4.out | with_reducible refine Below.drew ?_ | with_reducible refine bl_drewN ?_ _ | with_reducible refine bl_alloc ?_ _)) hb)
      have HO5 := Lib.hid (show OwnJ w5 w.heap.size (.slice Ap (putL ⟨ta, tm, ne⟩ js).length cp) (putL ⟨ta, tm, ne⟩ js) from OwnJ.below (OwnJ.less (by repeat (first | with_reducible exact HO4.out | with_reducible refine OwnJ.drewN ?_ _ | with_reducible refine OwnJ.drew ?_)) (Nat.le_succ _)) hb)
      clear hb
      go_wp2
      go_ret2
      rw [HPV.out]
      exact ⟨Ap, cp, rfl, HO5.out, HB5.out⟩
end

section
/- The swap in the program's heap of jobs, cell by cell. -/
open Go.RowKit
set_option linter.unusedVariables false

/-- Three numbers written one after another. -/
def put3 (w : World) (a : Addr) (x y z : Int) : World := ((w.setCell a (.int .i64 x)).setCell ⟨a.block, a.off + 1, none⟩ (.int .i64 y)).setCell ⟨a.block, a.off + 2, none⟩ (.int .i64 z)
/-- No result; the world is W. -/
def SwRes (W : World) (e : Ending) (w' : World) : Prop := e = .returned (.tuple #[]) ∧ w' = W
set_option maxRecDepth 100000 in
set_option maxHeartbeats 4000000 in
theorem swap_ne (w : World) (hb g o n c a b : Nat) (x0 x1 x2 y0 y1 y2 : Int) (h0 : w.cell? ⟨hb, 0, none⟩ = some (.slice (some ⟨g, o, none⟩) n c)) (hne : hb ≠ g) (hab : a ≠ b) (ha : a < n) (hbn : b < n)
    (a0 : w.cell? ⟨g, o + a * 3, none⟩ = some (.int .i64 x0)) (a1 : w.cell? ⟨g, o + a * 3 + 1, none⟩ = some (.int .i64 x1)) (a2 : w.cell? ⟨g, o + a * 3 + 2, none⟩ = some (.int .i64 x2))
    (b0 : w.cell? ⟨g, o + b * 3, none⟩ = some (.int .i64 y0)) (b1 : w.cell? ⟨g, o + b * 3 + 1, none⟩ = some (.int .i64 y1)) (b2 : w.cell? ⟨g, o + b * 3 + 2, none⟩ = some (.int .i64 y2))
    (fz : ∀ i, w.frozen? ⟨g, i, none⟩ = false) :
    Calls Try.prog 66 #[.pointer (some ⟨hb, 0, none⟩), .int .i64 a, .int .i64 b] w (SwRes ((put3 (put3 w ⟨g, o + a * 3, none⟩ y0 y1 y2) ⟨g, o + b * 3, none⟩ x0 x1 x2).drew)) := by
  have i1 : (0 : Int) ≤ (a : Int) := by omega
  have i2 : (a : Int) < (n : Int) := by omega
  have i3 : (0 : Int) ≤ (b : Int) := by omega
  have i4 : (b : Int) < (n : Int) := by omega
  generalize hW9 : (put3 (put3 w ⟨g, o + a * 3, none⟩ y0 y1 y2) ⟨g, o + b * 3, none⟩ x0 x1 x2).drew = W9
  have HW := Lib.hid hW9
  clear hW9
  go_enter Try.func66, Try.ntmps66
  go_wp2
  go_region
  all_goals
    go_end0
    exact ⟨rfl, HW.out⟩

set_option maxRecDepth 100000 in
set_option maxHeartbeats 4000000 in
theorem swap_eq (w : World) (hb g o n c a : Nat) (x0 x1 x2 : Int) (h0 : w.cell? ⟨hb, 0, none⟩ = some (.slice (some ⟨g, o, none⟩) n c)) (hne : hb ≠ g) (ha : a < n)
    (a0 : w.cell? ⟨g, o + a * 3, none⟩ = some (.int .i64 x0)) (a1 : w.cell? ⟨g, o + a * 3 + 1, none⟩ = some (.int .i64 x1)) (a2 : w.cell? ⟨g, o + a * 3 + 2, none⟩ = some (.int .i64 x2))
    (fz : ∀ i, w.frozen? ⟨g, i, none⟩ = false) :
    Calls Try.prog 66 #[.pointer (some ⟨hb, 0, none⟩), .int .i64 a, .int .i64 a] w (SwRes ((put3 (put3 w ⟨g, o + a * 3, none⟩ x0 x1 x2) ⟨g, o + a * 3, none⟩ x0 x1 x2).drew)) := by
  have i1 : (0 : Int) ≤ (a : Int) := by omega
  have i2 : (a : Int) < (n : Int) := by omega
  generalize hW9 : (put3 (put3 w ⟨g, o + a * 3, none⟩ x0 x1 x2) ⟨g, o + a * 3, none⟩ x0 x1 x2).drew = W9
  have HW := Lib.hid hW9
  clear hW9
  go_enter Try.func66, Try.ntmps66
  go_wp2
  go_region
  all_goals
    go_end0
    exact ⟨rfl, HW.out⟩
end

section
/- Contract of the swap in the program's heap of jobs. -/
open Go.RowKit
set_option linter.unusedVariables false

/-- Block hb is a heap with the elements hs, which are the call's own (from block B on). -/
structure Hp (w : World) (B hb og : Nat) (hs : List Jb) (v : Value) : Prop where
  blk : Blk w hb 70 #[v, (.func (.func 43) #[ordV og] #[])]
  own : OwnJ w B v hs
  lt : hb < B
  ord : OrdAt w og
  ogB : og < B
  hog : og ≠ hb
theorem Hp.below {w w' : World} {B hb og : Nat} {hs : List Jb} {v : Value} (h : Hp w B hb og hs v) (hb' : Below w.heap.size w w') : Hp w' B hb og hs v :=
  ⟨h.blk.below hb' h.blk.lt, h.own.below hb', h.lt, h.ord.below hb', h.ogB, h.hog⟩
theorem OrdAt.grown {w w' : World} {g : Nat} {row : Option Nat} (h : OrdAt w g) (hg : w.grownBy w' row) (hr : some g ≠ row) : OrdAt w' g :=
  ⟨Nat.lt_of_lt_of_le h.lt hg.size, (hg.cell_far ⟨g, 0, none⟩ h.lt hr).trans h.c0, (hg.cell_far ⟨g, 1, none⟩ h.lt hr).trans h.c1⟩
theorem OrdAt.setFar {w : World} {g : Nat} (h : OrdAt w g) {a : Addr} (ha : g ≠ a.block) (u : Value) : OrdAt (w.setCell a u) g :=
  ⟨by simp [World.setCell]; exact h.lt, (World.cell?_of_block (Below.heap_setCell w a u g ha)).trans h.c0, (World.cell?_of_block (Below.heap_setCell w a u g ha)).trans h.c1⟩
theorem OwnJ.setFar {w : World} {B : Nat} {v : Value} {ts : List Jb} (h : OwnJ w B v ts) {a : Addr} (ha : a.block < B) (u : Value) : OwnJ (w.setCell a u) B v ts :=
  ⟨h.1, by
    rcases h.2 with h2 | ⟨g, cap, cur, e, hb, hg, rest⟩
    · exact .inl h2
    · exact .inr ⟨g, cap, cur, e, hb, (Below.heap_setCell w a u g (by omega)).trans hg, rest⟩⟩
theorem jset3 : ∀ (ts : List Jb) (k : Nat) (j : Jb), k < ts.length → (((ts.flatMap Jb.cells).set (k * 3) (.int .i64 j.ta)).set (k * 3 + 1) (.int .i64 j.tm)).set (k * 3 + 2) (.int .i64 j.ne) = (ts.set k j).flatMap Jb.cells
  | [], k, j, h => by simp at h
  | t :: ts, 0, j, h => by simp [Jb.cells]
  | t :: ts, k + 1, j, h => by
    have ih := jset3 ts k j (by simpa using h)
    rw [List.set_cons_succ, List.flatMap_cons, List.flatMap_cons, ← ih]
    have e0 : (k + 1) * 3 = t.cells.length + k * 3 := by simp [Jb.cells]; omega
    rw [e0]
    simp only [Nat.add_assoc]
    rw [List.set_append_right _ _ (by omega), List.set_append_right _ _ (by omega), List.set_append_right _ _ (by omega)]
    simp
theorem OwnJ.put3 {w : World} {B g n c : Nat} {js : List Jb} (ho : OwnJ w B (.slice (some ⟨g, 0, none⟩) n c) js) (k : Nat) (j : Jb) (hk : k < js.length) :
    OwnJ (put3 w ⟨g, k * 3, none⟩ j.ta j.tm j.ne) B (.slice (some ⟨g, 0, none⟩) n c) (js.set k j) := by
  have hn := ho.reads.1
  subst hn
  have h1 := (World.ownsRow.stored ho (k * 3) (.int .i64 j.ta)).1
  have h2 := (World.ownsRow.stored h1 (k * 3 + 1) (.int .i64 j.tm)).1
  have h3 := (World.ownsRow.stored h2 (k * 3 + 2) (.int .i64 j.ne)).1
  rw [jset3 js k j hk] at h3
  unfold OwnJ
  rw [List.length_set]
  unfold Go.Proofs.Ytflilandcjnpjaa.put3
  simpa [addr_add3] using h3
theorem gb_put3 (w : World) (g o : Nat) (x y z : Int) : w.grownBy (put3 w ⟨g, o, none⟩ x y z) (some g) :=
  ⟨rfl, rfl, rfl, by simp [put3, World.setCell], fun k _ hne => by
    have hk : ∀ (W : World) (o : Nat) (u : Value), (W.setCell ⟨g, o, none⟩ u).heap[k]? = W.heap[k]? := fun W o u => Below.heap_setCell W ⟨g, o, none⟩ u k (fun e => hne (by rw [e]))
    unfold put3
    rw [hk, hk, hk]⟩
set_option maxHeartbeats 1000000 in
theorem iSwap_is (w : World) (B hb og : Nat) (hs : List Jb) (v : Value) (h : Hp w B hb og hs v) (a b : Nat) (x y : Jb) (ha : hs[a]? = some x) (hb' : hs[b]? = some y) :
    Calls Try.prog 66 #[.pointer (some ⟨hb, 0, none⟩), .int .i64 a, .int .i64 b] w fun e w' => e = .returned (.tuple #[]) ∧ Hp w' B hb og (swapL hs a b x y) v ∧ w.grownBy w' v.ownBlock := by
  have hal := (List.getElem?_eq_some_iff.1 ha).1
  have hbl := (List.getElem?_eq_some_iff.1 hb').1
  obtain ⟨g, c, rfl⟩ := h.own.some_ (by omega)
  obtain ⟨hgB, hgl⟩ := World.ownsRow.lt h.own g rfl
  have hR := h.own.reads.2
  obtain ⟨_, A0, A1, A2⟩ := hR.get ha
  obtain ⟨_, B0, B1, B2⟩ := hR.get hb'
  have hne : hb ≠ g := by have := h.lt; omega
  have hcell := h.blk.cell 0
  obtain ⟨_, _, cur, hcur, _⟩ := jown_block h.own
  have hfz : ∀ i, w.frozen? ⟨g, i, none⟩ = false := fun i => Blk.frozen (w := w) (g := g) (cs := cur) hcur i
  have fin : ∀ W : World, W = (put3 (put3 w ⟨g, 0 + a * 3, none⟩ y.ta y.tm y.ne) ⟨g, 0 + b * 3, none⟩ x.ta x.tm x.ne).drew → Hp W B hb og (swapL hs a b x y) (.slice (some ⟨g, 0, none⟩) hs.length c) ∧ w.grownBy W (Value.slice (some ⟨g, 0, none⟩) hs.length c).ownBlock := by
    intro W hW
    subst hW
    rw [Nat.zero_add, Nat.zero_add]
    have g1 := gb_put3 w g (a * 3) y.ta y.tm y.ne
    have g2 := gb_trans g1 (gb_put3 (put3 w ⟨g, a * 3, none⟩ y.ta y.tm y.ne) g (b * 3) x.ta x.tm x.ne) (fun x e => .inl (by injection e with e; exact e.symm))
    have g3 := gb_drewJ g2
    have o2 := (h.own.put3 a y hal).put3 b x (by simpa using hbl)
    exact ⟨⟨h.blk.grown g3 (by intro e; injection e with e; exact hne e), OwnJ.drew o2, h.lt, h.ord.grown g3 (by intro e; injection e with e; have := h.ogB; omega), h.ogB, h.hog⟩, g3⟩
  by_cases hab : a = b
  · subst hab
    obtain rfl : x = y := by rw [ha] at hb'; injection hb'
    refine (swap_eq w hb g 0 hs.length c a x.ta x.tm x.ne hcell hne hal A0 A1 A2 hfz).mono ?_
    rintro e w' ⟨rfl, hw⟩
    exact ⟨rfl, fin w' hw⟩
  · refine (swap_ne w hb g 0 hs.length c a b x.ta x.tm x.ne y.ta y.tm y.ne hcell hne hab hal hbl A0 A1 A2 B0 B1 B2 hfz).mono ?_
    rintro e w' ⟨rfl, hw⟩
    exact ⟨rfl, fin w' hw⟩
end

section
/- Contract of push in the program's heap of jobs. -/
open Go.RowKit
set_option linter.unusedVariables false

theorem blk_drew1 {w : World} {g : Nat} {t : TypeId} {cs : Array Value} (h : Blk w g t cs) : Blk w.drew g t cs := h
/-- What a call leaves that writes block hb and one row: all else that was there is as it was. -/
structure Gr2 (w w' : World) (hb : Nat) (row : Option Nat) : Prop where
  os : w'.os = w.os
  tape : w'.tape = w.tape
  output : w'.output = w.output
  size : w.heap.size ≤ w'.heap.size
  block : ∀ k, k < w.heap.size → k ≠ hb → some k ≠ row → w'.heap[k]? = w.heap[k]?
theorem Gr2.of_gb {w w' : World} {hb : Nat} {row : Option Nat} (h : w.grownBy w' row) : Gr2 w w' hb row := ⟨h.os, h.tape, h.output, h.size, fun k hk _ hr => h.block k hk hr⟩
theorem Gr2.of_below {w w' : World} {hb : Nat} {row : Option Nat} (h : Below w.heap.size w w') : Gr2 w w' hb row := .of_gb (gb_belowJ h row)
theorem Gr2.drew {w w' : World} {hb : Nat} {row : Option Nat} (h : Gr2 w w' hb row) : Gr2 w w'.drew hb row := ⟨h.os, h.tape, h.output, h.size, h.block⟩
theorem Gr2.drewN {w w' : World} {hb : Nat} {row : Option Nat} (h : Gr2 w w' hb row) (n : Nat) : Gr2 w (w'.drewN n) hb row := ⟨h.os, h.tape, h.output, h.size, h.block⟩
theorem Gr2.alloc {w w' : World} {hb : Nat} {row : Option Nat} (h : Gr2 w w' hb row) (o : Obj) : Gr2 w (w'.alloc o) hb row :=
  ⟨h.os, h.tape, h.output, by simp; have := h.size; omega, fun k hk h1 h2 => (Below.heap_alloc w' o k (Nat.lt_of_lt_of_le hk h.size)).trans (h.block k hk h1 h2)⟩
theorem Gr2.set {w w' : World} {hb : Nat} {row : Option Nat} (h : Gr2 w w' hb row) (i : Nat) (u : Value) : Gr2 w (w'.setCell ⟨hb, i, none⟩ u) hb row :=
  ⟨h.os, h.tape, h.output, by simp [World.setCell]; exact h.size, fun k hk h1 h2 => (Below.heap_setCell w' ⟨hb, i, none⟩ u k h1).trans (h.block k hk h1 h2)⟩
/-- Two such calls, one after another: the second one's row is the first one's or a new one. -/
theorem Gr2.trans {a b c : World} {hb : Nat} {row row2 : Option Nat} (h : Gr2 a b hb row) (k : Gr2 b c hb row2) (hr : ∀ x, row2 = some x → row = some x ∨ a.heap.size ≤ x) : Gr2 a c hb row :=
  ⟨k.os.trans h.os, k.tape.trans h.tape, k.output.trans h.output, Nat.le_trans h.size k.size, fun i hi h1 h2 =>
    (k.block i (Nat.lt_of_lt_of_le hi h.size) h1 (fun e => by rcases hr i e.symm with e2 | e2; exact h2 e2.symm; omega)).trans (h.block i hi h1 h2)⟩
theorem Gr2.below {B : Nat} {w0 a b : World} {hb : Nat} {row : Option Nat} (h0 : Below B w0 a) (h : Gr2 a b hb row) (hB : B ≤ a.heap.size) (h1 : B ≤ hb) (h2 : ∀ x, row = some x → B ≤ x) : Below B w0 b :=
  h0.trans (⟨h.os, h.tape, h.output, h.size, fun k hk => h.block k (Nat.lt_of_lt_of_le hk hB) (by omega) (fun e => by have := h2 k e.symm; omega)⟩ : Below B a b)
theorem Hp.len {w : World} {B hb og : Nat} {hs : List Jb} {g n c : Nat} (h : Hp w B hb og hs (.slice (some ⟨g, 0, none⟩) n c)) : n = hs.length ∧ B ≤ g ∧ g < w.heap.size ∧ hb ≠ g := by
  have h1 := World.ownsRow.lt h.own g rfl
  have h2 := h.lt
  exact ⟨h.own.reads.1, h1.1, h1.2, by omega⟩
/-- One more job in a heap. -/
def PushRes (B hb og : Nat) (hs : List Jb) (v : Value) (x : Jb) (w : World) (e : Ending) (w' : World) : Prop :=
  e = .returned (.tuple #[]) ∧ ∃ (g c : Nat) (hs' : List Jb), Hp w' B hb og hs' (.slice (some ⟨g, 0, none⟩) hs'.length c) ∧ heapP hs' ∧ hs'.Perm (hs ++ [x]) ∧ (v.ownBlock = some g ∨ w.heap.size ≤ g) ∧ Gr2 w w' hb v.ownBlock
set_option maxRecDepth 100000 in
set_option maxHeartbeats 8000000 in
theorem iPush_is (w : World) (B hb og : Nat) (hs : List Jb) (v : Value) (h : Hp w B hb og hs v) (hB : B ≤ w.heap.size) (hp : heapP hs) (hl : hs.length ≤ 60) (x : Jb) :
    Calls Try.prog 44 #[.pointer (some ⟨hb, 0, none⟩), x.val] w (PushRes B hb og hs v x w) := by
  obtain ⟨i0, hi, hz0, hz1, hz2⟩ := info_parts info_job
  obtain ⟨ta, tm, ne⟩ := x
  have HH := Lib.hid h
  have HE := Lib.hid h.own
  have hbB := h.lt
  have hogB := h.ogB
  have HPP := Lib.hid hp
  obtain ⟨A0, cp0, rfl⟩ := h.own.form
  have hblw : hb < w.heap.size := h.blk.lt
  have hnb : some hb ≠ (Value.slice A0 hs.length cp0).ownBlock := fun e => by have := (World.ownsRow.lt h.own hb e.symm).1; have := h.lt; omega
  have hno : some og ≠ (Value.slice A0 hs.length cp0).ownBlock := fun e => by have := (World.ownsRow.lt h.own og e.symm).1; have := h.ogB; omega
  have HNB := Lib.hid hnb
  have HNO := Lib.hid hno
  have BX := Lib.hid (Blk.new w 38 #[.int .i64 ta, .int .i64 tm, .int .i64 ne])
  have BH := Lib.hid (h.blk.alloc (.cells #[.int .i64 ta, .int .i64 tm, .int .i64 ne] 38))
  have x0 := BX.out.cell 0
  have x1 := BX.out.cell 1
  have x2 := BX.out.cell 2
  have k0 := BH.out.cell 0
  clear h hp hnb hno
  unfold Jb.val
  dsimp only
  go_enter Try.func44, Try.ntmps44
  go_wp2
  go_region_law (refine step_append_lies _ (by rfl) (.tmp 9) (.tmp 11) 26 (by rfl) B 38 i0 _ 3 24 Try.underlying26 hi hz0 hz1 hz2 rfl (by decide) (.slice A0 hs.length cp0) hs.length (hs.flatMap Jb.cells) (by rfl) (show OwnJ _ B _ hs from (by repeat (first | with_reducible exact HE.out | with_reducible refine OwnJ.drew ?_ | with_reducible refine OwnJ.drewN ?_ _ | with_reducible refine OwnJ.alloc ?_ _))) ⟨w.heap.size + 1, 0, none⟩ 1 1 (Jb.cells ⟨ta, tm, ne⟩) (by rfl) rfl (by intro j u hu; have h0 := cell_new3 (w.alloc (.cells #[.int .i64 ta, .int .i64 tm, .int .i64 ne] 38)) ⟨ta, tm, ne⟩ 38 j u hu; simpa using h0) (by intro u hu; exact jcells_one [⟨ta, tm, ne⟩] u (by simpa using hu)) (by omega) (by unfold maxLen; omega) (by omega) (by simp; omega) (w.heap.size + 1 + 1) (by simp) ?_; intro g cap w2 hown2 hgrow2 hat2 hlt2; have HO2 := Lib.hid hown2; have HG2 := Lib.hid hgrow2; have HAT := Lib.hid hat2; clear hown2 hgrow2 hat2; have BH2 := Lib.hid (show Blk w2 hb 70 #[.slice A0 hs.length cp0, (.func (.func 43) #[ordV og] #[])] from Blk.grown (by repeat (first | with_reducible exact BH.out | with_reducible refine blk_drew1 ?_ | with_reducible refine Blk.drewN ?_ _ | with_reducible refine Blk.alloc ?_ _)) HG2.out HNB.out); have k2 := BH2.out.cell 0; have f2 := BH2.out.frozen 0; clear k0 x0 x1 x2)
  all_goals
    have HROW : Hid (∀ k, (Value.slice A0 hs.length cp0).ownBlock = some k → k < w.heap.size) := Lib.hid (fun k e => (World.ownsRow.lt HE.out k e).2)
    have hV : (hs ++ [(⟨ta, tm, ne⟩ : Jb)]).length = hs.length + 1 := by simp
    have HO3 : Hid (OwnJ w2 B (.slice (some ⟨g, 0, none⟩) (hs.length + 1) cap) (hs ++ [⟨ta, tm, ne⟩])) := Lib.hid (OwnJ.snoc HO2.out)
    have hgB := (World.ownsRow.lt HO3.out g rfl).1
    have HG1 : Hid (Gr2 w w2 hb (Value.slice A0 hs.length cp0).ownBlock) := Lib.hid (Gr2.trans (Gr2.of_below (row := (Value.slice A0 hs.length cp0).ownBlock) (by repeat (first | with_reducible exact Below.refl _ _ | with_reducible refine Below.drew ?_ | with_reducible refine bl_drewN ?_ _ | with_reducible refine bl_alloc ?_ _))) (Gr2.of_gb HG2.out) (fun x e => .inl e))
    have HG3 := Lib.hid (HG1.out.set 0 (.slice (some ⟨g, 0, none⟩) (hs.length + 1) cap))
    have HORD2 : Hid (OrdAt w2 og) := Lib.hid (OrdAt.grown (by repeat (first | with_reducible exact HH.out.ord | with_reducible refine OrdAt.drew ?_ | with_reducible refine OrdAt.drewN ?_ _ | with_reducible refine OrdAt.alloc ?_ _)) HG2.out HNO.out)
    have HH3 : Hid (Hp (w2.setCell ⟨hb, 0, none⟩ (.slice (some ⟨g, 0, none⟩) (hs.length + 1) cap)) B hb og (hs ++ [⟨ta, tm, ne⟩]) (.slice (some ⟨g, 0, none⟩) (hs.length + 1) cap)) := Lib.hid ⟨BH2.out.set_ 0 _, HO3.out.setFar hbB _, hbB, HORD2.out.setFar HH.out.hog _, hogB, HH.out.hog⟩
    have BX2 : Hid (Blk w2 w.heap.size 38 #[.int .i64 ta, .int .i64 tm, .int .i64 ne]) := Lib.hid (Blk.grown (by repeat (first | with_reducible exact BX.out | with_reducible refine blk_drew1 ?_ | with_reducible refine Blk.drewN ?_ _ | with_reducible refine Blk.alloc ?_ _)) HG2.out (fun e => by have := HROW.out _ e.symm; omega))
    have BX3 := Lib.hid (BX2.out.far (p := ⟨hb, 0, none⟩) (by dsimp only; omega) (.slice (some ⟨g, 0, none⟩) (hs.length + 1) cap))
    have HATL : Hid ((Value.slice A0 hs.length cp0).ownBlock = some g ∨ w.heap.size < g) := Lib.hid (HAT.out.imp id (fun e => by omega))
    have HAT2 : Hid ((Value.slice A0 hs.length cp0).ownBlock = some g ∨ w.heap.size ≤ g) := Lib.hid (HAT.out.imp id (fun e => by omega))
    have HUP := Lib.hid (up_start (x := ⟨ta, tm, ne⟩) HPP.out)
    have hcell3 := HH3.out.blk.cell 0
    clear BH2 k2 f2 HO2 HG2 HG1 HORD2 HO3 BX2 BX BH HNB HNO HAT hlt2
    generalize (w2.setCell ⟨hb, 0, none⟩ (.slice (some ⟨g, 0, none⟩) (hs.length + 1) cap)) = w3 at *
    have kw : IntKind.i64.wrap ((hs.length : Int) + 1 - 1) = (hs.length : Int) := by rw [IntWalk.i64_in _ (by omega)]; omega
    go_wp2
    clear hcell3 kw
    go_loopw [4] (fun i wr => ∃ (q : Nat) (hs1 : List Jb), i = .int .i64 q ∧ hs1.length = hs.length + 1 ∧ q ≤ hs.length ∧ Hid (Hp wr B hb og hs1 (.slice (some ⟨g, 0, none⟩) (hs.length + 1) cap)) ∧ Hid (UpInv hs1 q ⟨ta, tm, ne⟩) ∧ Hid (hs1.Perm (hs ++ [⟨ta, tm, ne⟩])) ∧ Hid (Blk wr w.heap.size 38 #[.int .i64 ta, .int .i64 tm, .int .i64 ne]) ∧ Hid (Gr2 w wr hb (Value.slice A0 hs.length cp0).ownBlock)) (fun i _ => (intOf i).toNat)
    case atStart => exact ⟨hs.length, hs ++ [⟨ta, tm, ne⟩], rfl, hV, Nat.le_refl _, HH3, HUP, Lib.hid (List.Perm.refl _), BX3, HG3⟩
    case round =>
      obtain ⟨q, hs1, rfl, hl1, hql, HH, HU, HP, BX, HG⟩ := hrel
      obtain ⟨w4, hw4⟩ : ∃ W, W = wr := ⟨_, rfl⟩
      subst hw4
      have HL1 := Lib.hid hl1
      have c0 := HH.out.blk.cell 0
      have c1 := HH.out.blk.cell 1
      have c2 := BX.out.cell 0
      have c3 := BX.out.cell 1
      have c4 := BX.out.cell 2
      have hbl : hb < w4.heap.size := HH.out.blk.lt
      have hxl : w.heap.size < w4.heap.size := BX.out.lt
      have hgl : g < w4.heap.size := (World.ownsRow.lt HH.out.own g rfl).2
      clear hl1
      by_cases hq0 : q = 0
      · subst hq0
        go_wp2_with fail
        refine wp_region_held_drew (S := (fun W => True)) (by kernel_rfl) (by trivial) (fun hHeld0 => ?_)
        refine wpAnyH_take (i := 0) (oi := { dst := some 21, op := Go.Op.move (Go.Operand.tmp 4), type := 3, pos := "l6_jobs.go:151", after := #[], guard := none }) (v := ?_) rfl (by kernel_rfl) (by kernel_rfl) (by kernel_rfl) (fun _ _ _ h => h) (Or.inl ⟨by rfl, ?_⟩) hHeld0 ?_
        rotate_left
        · first | (intro w hSw; (try dsimp only at hSw); go_simp; done) | (intro w hSw; (try dsimp only at hSw); go_simp; with_reducible rfl)
        (try simp only [Act.put, List.setIfInBounds_toArray, List.set_cons_zero, List.set_cons_succ])
        refine wpAnyH_take (i := 1) (oi := { dst := some 22, op := Go.Op.binOp Go.BinOp.gtr 3 (Go.Operand.tmp 21) (Go.Operand.const (Go.Value.int Go.IntKind.i64 0)) 3, type := 4, pos := "l6_jobs.go:151", after := #[{ on := 0, ground := Go.Ground.data }], guard := none }) (v := ?_) rfl (by kernel_rfl) (by kernel_rfl) (by kernel_rfl) (fun _ _ _ h => h) (Or.inl ⟨by rfl, ?_⟩) hHeld0 ?_
        rotate_left
        · first | (intro w hSw; (try dsimp only at hSw); go_simp; done) | (intro w hSw; (try dsimp only at hSw); go_simp; with_reducible rfl)
        (try simp only [Act.put, List.setIfInBounds_toArray, List.set_cons_zero, List.set_cons_succ])
        refine wpAnyH_take (i := 2) (oi := { dst := some 23, op := Go.Op.move (Go.Operand.tmp 22), type := 4, pos := "l6_jobs.go:151", after := #[{ on := 1, ground := Go.Ground.data }], guard := none }) (v := ?_) rfl (by kernel_rfl) (by kernel_rfl) (by kernel_rfl) (fun _ _ _ h => h) (Or.inl ⟨by rfl, ?_⟩) hHeld0 ?_
        rotate_left
        · first | (intro w hSw; (try dsimp only at hSw); go_simp; done) | (intro w hSw; (try dsimp only at hSw); go_simp; with_reducible rfl)
        (try simp only [Act.put, List.setIfInBounds_toArray, List.set_cons_zero, List.set_cons_succ])
        refine wpAnyH_take (i := 3) (oi := { dst := some 24, op := Go.Op.move (Go.Operand.tmp 0), type := 89, pos := "l6_jobs.go:151", after := #[{ on := 2, ground := Go.Ground.guard }], guard := some (2, true) }) (v := undef) rfl (by kernel_rfl) (by kernel_rfl) (by kernel_rfl) (fun _ _ _ h => h) (Or.inr ⟨by rfl, by rfl⟩) hHeld0 ?_
        (try simp only [Act.put, List.setIfInBounds_toArray, List.set_cons_zero, List.set_cons_succ])
        refine wpAnyH_take (i := 4) (oi := { dst := some 25, op := Go.Op.nilCheck (Go.Operand.tmp 24), type := 0, pos := "l6_jobs.go:151", after := #[{ on := 3, ground := Go.Ground.data }, { on := 2, ground := Go.Ground.guard }], guard := some (2, true) }) (v := undef) rfl (by kernel_rfl) (by kernel_rfl) (by kernel_rfl) (fun _ _ _ h => h) (Or.inr ⟨by rfl, by rfl⟩) hHeld0 ?_
        (try simp only [Act.put, List.setIfInBounds_toArray, List.set_cons_zero, List.set_cons_succ])
        refine wpAnyH_take (i := 5) (oi := { dst := some 26, op := Go.Op.fieldAddr 70 (Go.Operand.tmp 25) 1, type := 0, pos := "l6_jobs.go:151", after := #[{ on := 4, ground := Go.Ground.data }, { on := 2, ground := Go.Ground.guard }], guard := some (2, true) }) (v := undef) rfl (by kernel_rfl) (by kernel_rfl) (by kernel_rfl) (fun _ _ _ h => h) (Or.inr ⟨by rfl, by rfl⟩) hHeld0 ?_
        (try simp only [Act.put, List.setIfInBounds_toArray, List.set_cons_zero, List.set_cons_succ])
        refine wpAnyH_take (i := 6) (oi := { dst := some 27, op := Go.Op.load 65 (Go.Operand.tmp 26), type := 65, pos := "l6_jobs.go:151", after := #[{ on := 5, ground := Go.Ground.data }, { on := 2, ground := Go.Ground.guard }], guard := some (2, true) }) (v := undef) rfl (by kernel_rfl) (by kernel_rfl) (by kernel_rfl) (fun _ _ _ h => h) (Or.inr ⟨by rfl, by rfl⟩) hHeld0 ?_
        (try simp only [Act.put, List.setIfInBounds_toArray, List.set_cons_zero, List.set_cons_succ])
        refine wpAnyH_take (i := 7) (oi := { dst := some 28, op := Go.Op.load 38 (Go.Operand.tmp 3), type := 38, pos := "l6_jobs.go:151", after := #[{ on := 2, ground := Go.Ground.guard }], guard := some (2, true) }) (v := undef) rfl (by kernel_rfl) (by kernel_rfl) (by kernel_rfl) (fun _ _ _ h => h) (Or.inr ⟨by rfl, by rfl⟩) hHeld0 ?_
        (try simp only [Act.put, List.setIfInBounds_toArray, List.set_cons_zero, List.set_cons_succ])
        refine wpAnyH_take (i := 8) (oi := { dst := some 29, op := Go.Op.move (Go.Operand.tmp 0), type := 89, pos := "l6_jobs.go:151", after := #[{ on := 2, ground := Go.Ground.guard }], guard := some (2, true) }) (v := undef) rfl (by kernel_rfl) (by kernel_rfl) (by kernel_rfl) (fun _ _ _ h => h) (Or.inr ⟨by rfl, by rfl⟩) hHeld0 ?_
        (try simp only [Act.put, List.setIfInBounds_toArray, List.set_cons_zero, List.set_cons_succ])
        refine wpAnyH_take (i := 9) (oi := { dst := some 30, op := Go.Op.nilCheck (Go.Operand.tmp 29), type := 0, pos := "l6_jobs.go:151", after := #[{ on := 8, ground := Go.Ground.data }, { on := 2, ground := Go.Ground.guard }], guard := some (2, true) }) (v := undef) rfl (by kernel_rfl) (by kernel_rfl) (by kernel_rfl) (fun _ _ _ h => h) (Or.inr ⟨by rfl, by rfl⟩) hHeld0 ?_
        (try simp only [Act.put, List.setIfInBounds_toArray, List.set_cons_zero, List.set_cons_succ])
        refine wpAnyH_take (i := 10) (oi := { dst := some 31, op := Go.Op.fieldAddr 70 (Go.Operand.tmp 30) 0, type := 0, pos := "l6_jobs.go:151", after := #[{ on := 9, ground := Go.Ground.data }, { on := 2, ground := Go.Ground.guard }], guard := some (2, true) }) (v := undef) rfl (by kernel_rfl) (by kernel_rfl) (by kernel_rfl) (fun _ _ _ h => h) (Or.inr ⟨by rfl, by rfl⟩) hHeld0 ?_
        (try simp only [Act.put, List.setIfInBounds_toArray, List.set_cons_zero, List.set_cons_succ])
        refine wpAnyH_take (i := 11) (oi := { dst := some 32, op := Go.Op.load 26 (Go.Operand.tmp 31), type := 26, pos := "l6_jobs.go:151", after := #[{ on := 10, ground := Go.Ground.data }, { on := 2, ground := Go.Ground.guard }], guard := some (2, true) }) (v := undef) rfl (by kernel_rfl) (by kernel_rfl) (by kernel_rfl) (fun _ _ _ h => h) (Or.inr ⟨by rfl, by rfl⟩) hHeld0 ?_
        (try simp only [Act.put, List.setIfInBounds_toArray, List.set_cons_zero, List.set_cons_succ])
        refine wpAnyH_take (i := 12) (oi := { dst := some 33, op := Go.Op.move (Go.Operand.tmp 4), type := 3, pos := "l6_jobs.go:151", after := #[{ on := 2, ground := Go.Ground.guard }], guard := some (2, true) }) (v := undef) rfl (by kernel_rfl) (by kernel_rfl) (by kernel_rfl) (fun _ _ _ h => h) (Or.inr ⟨by rfl, by rfl⟩) hHeld0 ?_
        (try simp only [Act.put, List.setIfInBounds_toArray, List.set_cons_zero, List.set_cons_succ])
        refine wpAnyH_take (i := 13) (oi := { dst := some 34, op := Go.Op.binOp Go.BinOp.sub 3 (Go.Operand.tmp 33) (Go.Operand.const (Go.Value.int Go.IntKind.i64 1)) 3, type := 3, pos := "l6_jobs.go:151", after := #[{ on := 12, ground := Go.Ground.data }, { on := 2, ground := Go.Ground.guard }], guard := some (2, true) }) (v := undef) rfl (by kernel_rfl) (by kernel_rfl) (by kernel_rfl) (fun _ _ _ h => h) (Or.inr ⟨by rfl, by rfl⟩) hHeld0 ?_
        (try simp only [Act.put, List.setIfInBounds_toArray, List.set_cons_zero, List.set_cons_succ])
        refine wpAnyH_take (i := 14) (oi := { dst := some 35, op := Go.Op.binOp Go.BinOp.quo 3 (Go.Operand.tmp 34) (Go.Operand.const (Go.Value.int Go.IntKind.i64 2)) 3, type := 3, pos := "l6_jobs.go:151", after := #[{ on := 13, ground := Go.Ground.data }, { on := 2, ground := Go.Ground.guard }], guard := some (2, true) }) (v := undef) rfl (by kernel_rfl) (by kernel_rfl) (by kernel_rfl) (fun _ _ _ h => h) (Or.inr ⟨by rfl, by rfl⟩) hHeld0 ?_
        (try simp only [Act.put, List.setIfInBounds_toArray, List.set_cons_zero, List.set_cons_succ])
        refine wpAnyH_take (i := 15) (oi := { dst := some 36, op := Go.Op.indexAddr 26 (Go.Operand.tmp 32) (Go.Operand.tmp 35), type := 0, pos := "l6_jobs.go:151", after := #[{ on := 11, ground := Go.Ground.data }, { on := 14, ground := Go.Ground.data }, { on := 2, ground := Go.Ground.guard }], guard := some (2, true) }) (v := undef) rfl (by kernel_rfl) (by kernel_rfl) (by kernel_rfl) (fun _ _ _ h => h) (Or.inr ⟨by rfl, by rfl⟩) hHeld0 ?_
        (try simp only [Act.put, List.setIfInBounds_toArray, List.set_cons_zero, List.set_cons_succ])
        refine wpAnyH_take (i := 16) (oi := { dst := some 37, op := Go.Op.load 38 (Go.Operand.tmp 36), type := 38, pos := "l6_jobs.go:151", after := #[{ on := 15, ground := Go.Ground.data }, { on := 2, ground := Go.Ground.guard }], guard := some (2, true) }) (v := undef) rfl (by kernel_rfl) (by kernel_rfl) (by kernel_rfl) (fun _ _ _ h => h) (Or.inr ⟨by rfl, by rfl⟩) hHeld0 ?_
        (try simp only [Act.put, List.setIfInBounds_toArray, List.set_cons_zero, List.set_cons_succ])
        refine wpAnyH_take (i := 17) (oi := { dst := some 38, op := Go.Op.call { callee := Go.Callee.value (Go.Operand.tmp 27), args := #[Go.Operand.tmp 28, Go.Operand.tmp 37], argTypes := #[38, 38] }, type := 4, pos := "l6_jobs.go:151", after := #[{ on := 6, ground := Go.Ground.data }, { on := 7, ground := Go.Ground.data }, { on := 16, ground := Go.Ground.data }, { on := 2, ground := Go.Ground.chain }, { on := 2, ground := Go.Ground.guard }], guard := some (2, true) }) (v := undef) rfl (by kernel_rfl) (by kernel_rfl) (by kernel_rfl) (fun _ _ _ h => h) (Or.inr ⟨by rfl, by rfl⟩) hHeld0 ?_
        (try simp only [Act.put, List.setIfInBounds_toArray, List.set_cons_zero, List.set_cons_succ])
        refine wpAnyH_take (i := 18) (oi := { dst := some 39, op := Go.Op.pick (Go.Operand.tmp 23) (Go.Operand.tmp 38) (Go.Operand.const (Go.Value.bool false)), type := 4, pos := "l6_jobs.go:151", after := #[{ on := 2, ground := Go.Ground.data }, { on := 17, ground := Go.Ground.data }], guard := none }) (v := ?_) rfl (by kernel_rfl) (by kernel_rfl) (by kernel_rfl) (fun _ _ _ h => h) (Or.inl ⟨by rfl, ?_⟩) hHeld0 ?_
        rotate_left
        · first | (intro w hSw; (try dsimp only at hSw); go_simp; done) | (intro w hSw; (try dsimp only at hSw); go_simp; with_reducible rfl)
        (try simp only [Act.put, List.setIfInBounds_toArray, List.set_cons_zero, List.set_cons_succ])
        refine wpAnyH_done (by kernel_rfl) ?_ _
        go_wp2
        go_end0
        exact ⟨rfl, g, cap, hs1, by rw [HL1.out]; exact Hp.below HH.out (by repeat (first | with_reducible exact Below.refl _ _ | with_reducible refine bl_drewN ?_ _ | with_reducible refine Below.drew ?_)), up_done HU.out (.inl rfl), HP.out, HAT2.out, (by repeat (first | with_reducible exact HG.out | refine Gr2.drewN ?_ _ | refine Gr2.drew ?_))⟩
      obtain ⟨s, hs'⟩ : ∃ s, q = s + 1 := ⟨q - 1, by omega⟩
      obtain ⟨r, hr⟩ : ∃ r, (q - 1) / 2 = r := ⟨_, rfl⟩
      have hrs : r = s / 2 := by rw [← hr, hs']; rfl
      obtain ⟨pj, hpj⟩ : ∃ p, hs1[r]? = some p := ⟨hs1[r]'(by have := HL1.out; omega), List.getElem?_eq_getElem _⟩
      obtain ⟨_, a0, a1, a2⟩ := HH.out.own.reads.2.get hpj
      have c5 := a0
      have c6 := a1
      have c7 := a2
      simp only [Nat.zero_add] at c5 c6 c7
      clear a0 a1 a2
      have HPJ := Lib.hid (show hs1[(q - 1) / 2]? = some pj by rw [hr]; exact hpj)
      have HRQ := Lib.hid hr
      have q0 : (0 : Int) < (q : Int) := by omega
      have q00 : 0 < q := by omega
      have r0 : (0 : Int) ≤ (r : Int) := by omega
      have r1 : (r : Int) < (hs.length : Int) + 1 := by omega
      have r2 : IntKind.i64.wrap ((q : Int) - 1) = (s : Int) := by rw [IntWalk.i64_in _ (by omega)]; omega
      have r3 : (s : Int) / 2 = (r : Int) := by omega
      have r4 : Int.tdiv (s : Int) 2 = (r : Int) := by rw [Int.tdiv_eq_ediv_of_nonneg (by omega)]; exact r3
      have r5 : IntKind.i64.wrap (r : Int) = (r : Int) := IntWalk.i64_in _ (by omega)
      have hrl : r < q := by omega
      clear hs' hr hrs hpj
      obtain ⟨pa, pm, pe⟩ := pj
      dsimp only at c5 c6 c7
      cases hbf : befB ⟨ta, tm, ne⟩ ⟨pa, pm, pe⟩
      · have HBF := Lib.hid hbf
        clear hbf
        go_wp2_with fail
        refine wp_region_held_drew (S := (fun W => W.cell? ⟨hb, 0, none⟩ = some (.slice (some ⟨g, 0, none⟩) (hs.length + 1) cap) ∧ W.cell? ⟨hb, 1, none⟩ = some (.func (.func 43) #[ordV og] #[]) ∧ W.cell? ⟨w.heap.size, 0, none⟩ = some (.int .i64 ta) ∧ W.cell? ⟨w.heap.size, 1, none⟩ = some (.int .i64 tm) ∧ W.cell? ⟨w.heap.size, 2, none⟩ = some (.int .i64 ne) ∧ W.cell? ⟨g, r * 3, none⟩ = some (.int .i64 pa) ∧ W.cell? ⟨g, r * 3 + 1, none⟩ = some (.int .i64 pm) ∧ W.cell? ⟨g, r * 3 + 2, none⟩ = some (.int .i64 pe))) (by kernel_rfl) (by exact ⟨c0, c1, c2, c3, c4, c5, c6, c7⟩) (fun hHeld0 => ?_)
        refine wpAnyH_take (i := 0) (oi := { dst := some 21, op := Go.Op.move (Go.Operand.tmp 4), type := 3, pos := "l6_jobs.go:151", after := #[], guard := none }) (v := ?_) rfl (by kernel_rfl) (by kernel_rfl) (by kernel_rfl) (fun _ _ _ h => h) (Or.inl ⟨by rfl, ?_⟩) hHeld0 ?_
        rotate_left
        · first | (intro w hSw; (try dsimp only at hSw); go_simp; done) | (intro w hSw; (try dsimp only at hSw); go_simp; with_reducible rfl)
        (try simp only [Act.put, List.setIfInBounds_toArray, List.set_cons_zero, List.set_cons_succ])
        refine wpAnyH_take (i := 1) (oi := { dst := some 22, op := Go.Op.binOp Go.BinOp.gtr 3 (Go.Operand.tmp 21) (Go.Operand.const (Go.Value.int Go.IntKind.i64 0)) 3, type := 4, pos := "l6_jobs.go:151", after := #[{ on := 0, ground := Go.Ground.data }], guard := none }) (v := ?_) rfl (by kernel_rfl) (by kernel_rfl) (by kernel_rfl) (fun _ _ _ h => h) (Or.inl ⟨by rfl, ?_⟩) hHeld0 ?_
        rotate_left
        · first | (intro w hSw; (try dsimp only at hSw); go_simp; done) | (intro w hSw; (try dsimp only at hSw); go_simp; with_reducible rfl)
        (try simp only [Act.put, List.setIfInBounds_toArray, List.set_cons_zero, List.set_cons_succ])
        refine wpAnyH_take (i := 2) (oi := { dst := some 23, op := Go.Op.move (Go.Operand.tmp 22), type := 4, pos := "l6_jobs.go:151", after := #[{ on := 1, ground := Go.Ground.data }], guard := none }) (v := ?_) rfl (by kernel_rfl) (by kernel_rfl) (by kernel_rfl) (fun _ _ _ h => h) (Or.inl ⟨by rfl, ?_⟩) hHeld0 ?_
        rotate_left
        · first | (intro w hSw; (try dsimp only at hSw); go_simp; done) | (intro w hSw; (try dsimp only at hSw); go_simp; with_reducible rfl)
        (try simp only [Act.put, List.setIfInBounds_toArray, List.set_cons_zero, List.set_cons_succ])
        refine wpAnyH_take (i := 3) (oi := { dst := some 24, op := Go.Op.move (Go.Operand.tmp 0), type := 89, pos := "l6_jobs.go:151", after := #[{ on := 2, ground := Go.Ground.guard }], guard := some (2, true) }) (v := ?_) rfl (by kernel_rfl) (by kernel_rfl) (by kernel_rfl) (fun _ _ _ h => h) (Or.inl ⟨by rfl, ?_⟩) hHeld0 ?_
        rotate_left
        · first | (intro w hSw; (try dsimp only at hSw); go_simp; done) | (intro w hSw; (try dsimp only at hSw); go_simp; with_reducible rfl)
        (try simp only [Act.put, List.setIfInBounds_toArray, List.set_cons_zero, List.set_cons_succ])
        refine wpAnyH_take (i := 4) (oi := { dst := some 25, op := Go.Op.nilCheck (Go.Operand.tmp 24), type := 0, pos := "l6_jobs.go:151", after := #[{ on := 3, ground := Go.Ground.data }, { on := 2, ground := Go.Ground.guard }], guard := some (2, true) }) (v := ?_) rfl (by kernel_rfl) (by kernel_rfl) (by kernel_rfl) (fun _ _ _ h => h) (Or.inl ⟨by rfl, ?_⟩) hHeld0 ?_
        rotate_left
        · first | (intro w hSw; (try dsimp only at hSw); go_simp; done) | (intro w hSw; (try dsimp only at hSw); go_simp; with_reducible rfl)
        (try simp only [Act.put, List.setIfInBounds_toArray, List.set_cons_zero, List.set_cons_succ])
        refine wpAnyH_take (i := 5) (oi := { dst := some 26, op := Go.Op.fieldAddr 70 (Go.Operand.tmp 25) 1, type := 0, pos := "l6_jobs.go:151", after := #[{ on := 4, ground := Go.Ground.data }, { on := 2, ground := Go.Ground.guard }], guard := some (2, true) }) (v := ?_) rfl (by kernel_rfl) (by kernel_rfl) (by kernel_rfl) (fun _ _ _ h => h) (Or.inl ⟨by rfl, ?_⟩) hHeld0 ?_
        rotate_left
        · first | (intro w hSw; (try dsimp only at hSw); go_simp; done) | (intro w hSw; (try dsimp only at hSw); go_simp; with_reducible rfl)
        (try simp only [Act.put, List.setIfInBounds_toArray, List.set_cons_zero, List.set_cons_succ])
        refine wpAnyH_take (i := 6) (oi := { dst := some 27, op := Go.Op.load 65 (Go.Operand.tmp 26), type := 65, pos := "l6_jobs.go:151", after := #[{ on := 5, ground := Go.Ground.data }, { on := 2, ground := Go.Ground.guard }], guard := some (2, true) }) (v := ?_) rfl (by kernel_rfl) (by kernel_rfl) (by kernel_rfl) (fun _ _ _ h => h) (Or.inl ⟨by rfl, ?_⟩) hHeld0 ?_
        rotate_left
        · first | (intro w hSw; (try dsimp only at hSw); go_simp; done) | (intro w hSw; (try dsimp only at hSw); go_simp; with_reducible rfl)
        (try simp only [Act.put, List.setIfInBounds_toArray, List.set_cons_zero, List.set_cons_succ])
        refine wpAnyH_take (i := 7) (oi := { dst := some 28, op := Go.Op.load 38 (Go.Operand.tmp 3), type := 38, pos := "l6_jobs.go:151", after := #[{ on := 2, ground := Go.Ground.guard }], guard := some (2, true) }) (v := ?_) rfl (by kernel_rfl) (by kernel_rfl) (by kernel_rfl) (fun _ _ _ h => h) (Or.inl ⟨by rfl, ?_⟩) hHeld0 ?_
        rotate_left
        · first | (intro w hSw; (try dsimp only at hSw); go_simp; done) | (intro w hSw; (try dsimp only at hSw); go_simp; with_reducible rfl)
        (try simp only [Act.put, List.setIfInBounds_toArray, List.set_cons_zero, List.set_cons_succ])
        refine wpAnyH_take (i := 8) (oi := { dst := some 29, op := Go.Op.move (Go.Operand.tmp 0), type := 89, pos := "l6_jobs.go:151", after := #[{ on := 2, ground := Go.Ground.guard }], guard := some (2, true) }) (v := ?_) rfl (by kernel_rfl) (by kernel_rfl) (by kernel_rfl) (fun _ _ _ h => h) (Or.inl ⟨by rfl, ?_⟩) hHeld0 ?_
        rotate_left
        · first | (intro w hSw; (try dsimp only at hSw); go_simp; done) | (intro w hSw; (try dsimp only at hSw); go_simp; with_reducible rfl)
        (try simp only [Act.put, List.setIfInBounds_toArray, List.set_cons_zero, List.set_cons_succ])
        refine wpAnyH_take (i := 9) (oi := { dst := some 30, op := Go.Op.nilCheck (Go.Operand.tmp 29), type := 0, pos := "l6_jobs.go:151", after := #[{ on := 8, ground := Go.Ground.data }, { on := 2, ground := Go.Ground.guard }], guard := some (2, true) }) (v := ?_) rfl (by kernel_rfl) (by kernel_rfl) (by kernel_rfl) (fun _ _ _ h => h) (Or.inl ⟨by rfl, ?_⟩) hHeld0 ?_
        rotate_left
        · first | (intro w hSw; (try dsimp only at hSw); go_simp; done) | (intro w hSw; (try dsimp only at hSw); go_simp; with_reducible rfl)
        (try simp only [Act.put, List.setIfInBounds_toArray, List.set_cons_zero, List.set_cons_succ])
        refine wpAnyH_take (i := 10) (oi := { dst := some 31, op := Go.Op.fieldAddr 70 (Go.Operand.tmp 30) 0, type := 0, pos := "l6_jobs.go:151", after := #[{ on := 9, ground := Go.Ground.data }, { on := 2, ground := Go.Ground.guard }], guard := some (2, true) }) (v := ?_) rfl (by kernel_rfl) (by kernel_rfl) (by kernel_rfl) (fun _ _ _ h => h) (Or.inl ⟨by rfl, ?_⟩) hHeld0 ?_
        rotate_left
        · first | (intro w hSw; (try dsimp only at hSw); go_simp; done) | (intro w hSw; (try dsimp only at hSw); go_simp; with_reducible rfl)
        (try simp only [Act.put, List.setIfInBounds_toArray, List.set_cons_zero, List.set_cons_succ])
        refine wpAnyH_take (i := 11) (oi := { dst := some 32, op := Go.Op.load 26 (Go.Operand.tmp 31), type := 26, pos := "l6_jobs.go:151", after := #[{ on := 10, ground := Go.Ground.data }, { on := 2, ground := Go.Ground.guard }], guard := some (2, true) }) (v := ?_) rfl (by kernel_rfl) (by kernel_rfl) (by kernel_rfl) (fun _ _ _ h => h) (Or.inl ⟨by rfl, ?_⟩) hHeld0 ?_
        rotate_left
        · first | (intro w hSw; (try dsimp only at hSw); go_simp; done) | (intro w hSw; (try dsimp only at hSw); go_simp; with_reducible rfl)
        (try simp only [Act.put, List.setIfInBounds_toArray, List.set_cons_zero, List.set_cons_succ])
        refine wpAnyH_take (i := 12) (oi := { dst := some 33, op := Go.Op.move (Go.Operand.tmp 4), type := 3, pos := "l6_jobs.go:151", after := #[{ on := 2, ground := Go.Ground.guard }], guard := some (2, true) }) (v := ?_) rfl (by kernel_rfl) (by kernel_rfl) (by kernel_rfl) (fun _ _ _ h => h) (Or.inl ⟨by rfl, ?_⟩) hHeld0 ?_
        rotate_left
        · first | (intro w hSw; (try dsimp only at hSw); go_simp; done) | (intro w hSw; (try dsimp only at hSw); go_simp; with_reducible rfl)
        (try simp only [Act.put, List.setIfInBounds_toArray, List.set_cons_zero, List.set_cons_succ])
        refine wpAnyH_take (i := 13) (oi := { dst := some 34, op := Go.Op.binOp Go.BinOp.sub 3 (Go.Operand.tmp 33) (Go.Operand.const (Go.Value.int Go.IntKind.i64 1)) 3, type := 3, pos := "l6_jobs.go:151", after := #[{ on := 12, ground := Go.Ground.data }, { on := 2, ground := Go.Ground.guard }], guard := some (2, true) }) (v := ?_) rfl (by kernel_rfl) (by kernel_rfl) (by kernel_rfl) (fun _ _ _ h => h) (Or.inl ⟨by rfl, ?_⟩) hHeld0 ?_
        rotate_left
        · first | (intro w hSw; (try dsimp only at hSw); go_simp; done) | (intro w hSw; (try dsimp only at hSw); go_simp; with_reducible rfl)
        (try simp only [Act.put, List.setIfInBounds_toArray, List.set_cons_zero, List.set_cons_succ])
        refine wpAnyH_take (i := 14) (oi := { dst := some 35, op := Go.Op.binOp Go.BinOp.quo 3 (Go.Operand.tmp 34) (Go.Operand.const (Go.Value.int Go.IntKind.i64 2)) 3, type := 3, pos := "l6_jobs.go:151", after := #[{ on := 13, ground := Go.Ground.data }, { on := 2, ground := Go.Ground.guard }], guard := some (2, true) }) (v := ?_) rfl (by kernel_rfl) (by kernel_rfl) (by kernel_rfl) (fun _ _ _ h => h) (Or.inl ⟨by rfl, ?_⟩) hHeld0 ?_
        rotate_left
        · first | (intro w hSw; (try dsimp only at hSw); go_simp; done) | (intro w hSw; (try dsimp only at hSw); go_simp; with_reducible rfl)
        (try simp only [Act.put, List.setIfInBounds_toArray, List.set_cons_zero, List.set_cons_succ])
        refine wpAnyH_take (i := 15) (oi := { dst := some 36, op := Go.Op.indexAddr 26 (Go.Operand.tmp 32) (Go.Operand.tmp 35), type := 0, pos := "l6_jobs.go:151", after := #[{ on := 11, ground := Go.Ground.data }, { on := 14, ground := Go.Ground.data }, { on := 2, ground := Go.Ground.guard }], guard := some (2, true) }) (v := ?_) rfl (by kernel_rfl) (by kernel_rfl) (by kernel_rfl) (fun _ _ _ h => h) (Or.inl ⟨by rfl, ?_⟩) hHeld0 ?_
        rotate_left
        · first | (intro w hSw; (try dsimp only at hSw); go_simp; done) | (intro w hSw; (try dsimp only at hSw); go_simp; with_reducible rfl)
        (try simp only [Act.put, List.setIfInBounds_toArray, List.set_cons_zero, List.set_cons_succ])
        refine wpAnyH_take (i := 16) (oi := { dst := some 37, op := Go.Op.load 38 (Go.Operand.tmp 36), type := 38, pos := "l6_jobs.go:151", after := #[{ on := 15, ground := Go.Ground.data }, { on := 2, ground := Go.Ground.guard }], guard := some (2, true) }) (v := ?_) rfl (by kernel_rfl) (by kernel_rfl) (by kernel_rfl) (fun _ _ _ h => h) (Or.inl ⟨by rfl, ?_⟩) hHeld0 ?_
        rotate_left
        · first | (intro w hSw; (try dsimp only at hSw); go_simp; done) | (intro w hSw; (try dsimp only at hSw); go_simp; with_reducible rfl)
        (try simp only [Act.put, List.setIfInBounds_toArray, List.set_cons_zero, List.set_cons_succ])
        refine wpAnyH_ready (rs := [17]) (by kernel_rfl) (by simp) ?_
        refine AllReadyH.cons (o := { dst := some 38, op := Go.Op.call { callee := Go.Callee.value (Go.Operand.tmp 27), args := #[Go.Operand.tmp 28, Go.Operand.tmp 37], argTypes := #[38, 38] }, type := 4, pos := "l6_jobs.go:151", after := #[{ on := 6, ground := Go.Ground.data }, { on := 7, ground := Go.Ground.data }, { on := 16, ground := Go.Ground.data }, { on := 2, ground := Go.Ground.chain }, { on := 2, ground := Go.Ground.guard }], guard := some (2, true) }) rfl (fun K hK => ?_) AllReadyH.nil
        go_simp
        (go_at_call 43; refine (iBef_is _ og (by repeat (first | with_reducible exact HH.out.ord | with_reducible refine OrdAt.drewN ?_ _ | with_reducible refine OrdAt.drew ?_)) ⟨ta, tm, ne⟩ ⟨pa, pm, pe⟩ false HBF.out).mono ?_; rintro e w6 ⟨rfl, hb6⟩; have HB6 := Lib.hid (show Below w4.heap.size w4 w6 from bl_trans (by repeat (first | with_reducible exact Below.refl _ _ | with_reducible refine bl_drewN ?_ _ | with_reducible refine Below.drew ?_)) hb6); clear hb6)
        (try go_wp2_with fail)
        refine hK.out _ _ (by exact ⟨(HB6.out.cell (p := ⟨hb, 0, none⟩) hbl).trans c0, (HB6.out.cell (p := ⟨hb, 1, none⟩) hbl).trans c1, (HB6.out.cell (p := ⟨w.heap.size, 0, none⟩) hxl).trans c2, (HB6.out.cell (p := ⟨w.heap.size, 1, none⟩) hxl).trans c3, (HB6.out.cell (p := ⟨w.heap.size, 2, none⟩) hxl).trans c4, (HB6.out.cell (p := ⟨g, r * 3, none⟩) hgl).trans c5, (HB6.out.cell (p := ⟨g, r * 3 + 1, none⟩) hgl).trans c6, (HB6.out.cell (p := ⟨g, r * 3 + 2, none⟩) hgl).trans c7⟩) (fun hHeld1 => ?_)
        clear hK K
        (try simp only [Act.put, List.setIfInBounds_toArray, List.set_cons_zero, List.set_cons_succ])
        refine wpAnyH_take (i := 18) (oi := { dst := some 39, op := Go.Op.pick (Go.Operand.tmp 23) (Go.Operand.tmp 38) (Go.Operand.const (Go.Value.bool false)), type := 4, pos := "l6_jobs.go:151", after := #[{ on := 2, ground := Go.Ground.data }, { on := 17, ground := Go.Ground.data }], guard := none }) (v := ?_) rfl (by kernel_rfl) (by kernel_rfl) (by kernel_rfl) (fun _ _ _ h => h) (Or.inl ⟨by rfl, ?_⟩) hHeld1 ?_
        rotate_left
        · first | (intro w hSw; (try dsimp only at hSw); go_simp; done) | (intro w hSw; (try dsimp only at hSw); go_simp; with_reducible rfl)
        (try simp only [Act.put, List.setIfInBounds_toArray, List.set_cons_zero, List.set_cons_succ])
        refine wpAnyH_done (by kernel_rfl) ?_ _
        go_wp2
        go_end0
        exact ⟨rfl, g, cap, hs1, by rw [HL1.out]; exact Hp.below HH.out (by repeat (first | with_reducible exact HB6.out | with_reducible refine bl_drewN ?_ _ | with_reducible refine Below.drew ?_)), up_done HU.out (.inr fun p hp => by rw [HPJ.out] at hp; injection hp with hp; rw [← hp]; exact HBF.out), HP.out, HAT2.out, Gr2.trans HG.out (Gr2.of_below (row := none) (by repeat (first | with_reducible exact HB6.out | with_reducible refine bl_drewN ?_ _ | with_reducible refine Below.drew ?_))) (fun x e => by cases e)⟩
      · have HBF := Lib.hid hbf
        clear hbf
        go_wp2_with fail
        refine wp_region_held_drew (S := (fun W => W.cell? ⟨hb, 0, none⟩ = some (.slice (some ⟨g, 0, none⟩) (hs.length + 1) cap) ∧ W.cell? ⟨hb, 1, none⟩ = some (.func (.func 43) #[ordV og] #[]) ∧ W.cell? ⟨w.heap.size, 0, none⟩ = some (.int .i64 ta) ∧ W.cell? ⟨w.heap.size, 1, none⟩ = some (.int .i64 tm) ∧ W.cell? ⟨w.heap.size, 2, none⟩ = some (.int .i64 ne) ∧ W.cell? ⟨g, r * 3, none⟩ = some (.int .i64 pa) ∧ W.cell? ⟨g, r * 3 + 1, none⟩ = some (.int .i64 pm) ∧ W.cell? ⟨g, r * 3 + 2, none⟩ = some (.int .i64 pe))) (by kernel_rfl) (by exact ⟨c0, c1, c2, c3, c4, c5, c6, c7⟩) (fun hHeld0 => ?_)
        refine wpAnyH_take (i := 0) (oi := { dst := some 21, op := Go.Op.move (Go.Operand.tmp 4), type := 3, pos := "l6_jobs.go:151", after := #[], guard := none }) (v := ?_) rfl (by kernel_rfl) (by kernel_rfl) (by kernel_rfl) (fun _ _ _ h => h) (Or.inl ⟨by rfl, ?_⟩) hHeld0 ?_
        rotate_left
        · first | (intro w hSw; (try dsimp only at hSw); go_simp; done) | (intro w hSw; (try dsimp only at hSw); go_simp; with_reducible rfl)
        (try simp only [Act.put, List.setIfInBounds_toArray, List.set_cons_zero, List.set_cons_succ])
        refine wpAnyH_take (i := 1) (oi := { dst := some 22, op := Go.Op.binOp Go.BinOp.gtr 3 (Go.Operand.tmp 21) (Go.Operand.const (Go.Value.int Go.IntKind.i64 0)) 3, type := 4, pos := "l6_jobs.go:151", after := #[{ on := 0, ground := Go.Ground.data }], guard := none }) (v := ?_) rfl (by kernel_rfl) (by kernel_rfl) (by kernel_rfl) (fun _ _ _ h => h) (Or.inl ⟨by rfl, ?_⟩) hHeld0 ?_
        rotate_left
        · first | (intro w hSw; (try dsimp only at hSw); go_simp; done) | (intro w hSw; (try dsimp only at hSw); go_simp; with_reducible rfl)
        (try simp only [Act.put, List.setIfInBounds_toArray, List.set_cons_zero, List.set_cons_succ])
        refine wpAnyH_take (i := 2) (oi := { dst := some 23, op := Go.Op.move (Go.Operand.tmp 22), type := 4, pos := "l6_jobs.go:151", after := #[{ on := 1, ground := Go.Ground.data }], guard := none }) (v := ?_) rfl (by kernel_rfl) (by kernel_rfl) (by kernel_rfl) (fun _ _ _ h => h) (Or.inl ⟨by rfl, ?_⟩) hHeld0 ?_
        rotate_left
        · first | (intro w hSw; (try dsimp only at hSw); go_simp; done) | (intro w hSw; (try dsimp only at hSw); go_simp; with_reducible rfl)
        (try simp only [Act.put, List.setIfInBounds_toArray, List.set_cons_zero, List.set_cons_succ])
        refine wpAnyH_take (i := 3) (oi := { dst := some 24, op := Go.Op.move (Go.Operand.tmp 0), type := 89, pos := "l6_jobs.go:151", after := #[{ on := 2, ground := Go.Ground.guard }], guard := some (2, true) }) (v := ?_) rfl (by kernel_rfl) (by kernel_rfl) (by kernel_rfl) (fun _ _ _ h => h) (Or.inl ⟨by rfl, ?_⟩) hHeld0 ?_
        rotate_left
        · first | (intro w hSw; (try dsimp only at hSw); go_simp; done) | (intro w hSw; (try dsimp only at hSw); go_simp; with_reducible rfl)
        (try simp only [Act.put, List.setIfInBounds_toArray, List.set_cons_zero, List.set_cons_succ])
        refine wpAnyH_take (i := 4) (oi := { dst := some 25, op := Go.Op.nilCheck (Go.Operand.tmp 24), type := 0, pos := "l6_jobs.go:151", after := #[{ on := 3, ground := Go.Ground.data }, { on := 2, ground := Go.Ground.guard }], guard := some (2, true) }) (v := ?_) rfl (by kernel_rfl) (by kernel_rfl) (by kernel_rfl) (fun _ _ _ h => h) (Or.inl ⟨by rfl, ?_⟩) hHeld0 ?_
        rotate_left
        · first | (intro w hSw; (try dsimp only at hSw); go_simp; done) | (intro w hSw; (try dsimp only at hSw); go_simp; with_reducible rfl)
        (try simp only [Act.put, List.setIfInBounds_toArray, List.set_cons_zero, List.set_cons_succ])
        refine wpAnyH_take (i := 5) (oi := { dst := some 26, op := Go.Op.fieldAddr 70 (Go.Operand.tmp 25) 1, type := 0, pos := "l6_jobs.go:151", after := #[{ on := 4, ground := Go.Ground.data }, { on := 2, ground := Go.Ground.guard }], guard := some (2, true) }) (v := ?_) rfl (by kernel_rfl) (by kernel_rfl) (by kernel_rfl) (fun _ _ _ h => h) (Or.inl ⟨by rfl, ?_⟩) hHeld0 ?_
        rotate_left
        · first | (intro w hSw; (try dsimp only at hSw); go_simp; done) | (intro w hSw; (try dsimp only at hSw); go_simp; with_reducible rfl)
        (try simp only [Act.put, List.setIfInBounds_toArray, List.set_cons_zero, List.set_cons_succ])
        refine wpAnyH_take (i := 6) (oi := { dst := some 27, op := Go.Op.load 65 (Go.Operand.tmp 26), type := 65, pos := "l6_jobs.go:151", after := #[{ on := 5, ground := Go.Ground.data }, { on := 2, ground := Go.Ground.guard }], guard := some (2, true) }) (v := ?_) rfl (by kernel_rfl) (by kernel_rfl) (by kernel_rfl) (fun _ _ _ h => h) (Or.inl ⟨by rfl, ?_⟩) hHeld0 ?_
        rotate_left
        · first | (intro w hSw; (try dsimp only at hSw); go_simp; done) | (intro w hSw; (try dsimp only at hSw); go_simp; with_reducible rfl)
        (try simp only [Act.put, List.setIfInBounds_toArray, List.set_cons_zero, List.set_cons_succ])
        refine wpAnyH_take (i := 7) (oi := { dst := some 28, op := Go.Op.load 38 (Go.Operand.tmp 3), type := 38, pos := "l6_jobs.go:151", after := #[{ on := 2, ground := Go.Ground.guard }], guard := some (2, true) }) (v := ?_) rfl (by kernel_rfl) (by kernel_rfl) (by kernel_rfl) (fun _ _ _ h => h) (Or.inl ⟨by rfl, ?_⟩) hHeld0 ?_
        rotate_left
        · first | (intro w hSw; (try dsimp only at hSw); go_simp; done) | (intro w hSw; (try dsimp only at hSw); go_simp; with_reducible rfl)
        (try simp only [Act.put, List.setIfInBounds_toArray, List.set_cons_zero, List.set_cons_succ])
        refine wpAnyH_take (i := 8) (oi := { dst := some 29, op := Go.Op.move (Go.Operand.tmp 0), type := 89, pos := "l6_jobs.go:151", after := #[{ on := 2, ground := Go.Ground.guard }], guard := some (2, true) }) (v := ?_) rfl (by kernel_rfl) (by kernel_rfl) (by kernel_rfl) (fun _ _ _ h => h) (Or.inl ⟨by rfl, ?_⟩) hHeld0 ?_
        rotate_left
        · first | (intro w hSw; (try dsimp only at hSw); go_simp; done) | (intro w hSw; (try dsimp only at hSw); go_simp; with_reducible rfl)
        (try simp only [Act.put, List.setIfInBounds_toArray, List.set_cons_zero, List.set_cons_succ])
        refine wpAnyH_take (i := 9) (oi := { dst := some 30, op := Go.Op.nilCheck (Go.Operand.tmp 29), type := 0, pos := "l6_jobs.go:151", after := #[{ on := 8, ground := Go.Ground.data }, { on := 2, ground := Go.Ground.guard }], guard := some (2, true) }) (v := ?_) rfl (by kernel_rfl) (by kernel_rfl) (by kernel_rfl) (fun _ _ _ h => h) (Or.inl ⟨by rfl, ?_⟩) hHeld0 ?_
        rotate_left
        · first | (intro w hSw; (try dsimp only at hSw); go_simp; done) | (intro w hSw; (try dsimp only at hSw); go_simp; with_reducible rfl)
        (try simp only [Act.put, List.setIfInBounds_toArray, List.set_cons_zero, List.set_cons_succ])
        refine wpAnyH_take (i := 10) (oi := { dst := some 31, op := Go.Op.fieldAddr 70 (Go.Operand.tmp 30) 0, type := 0, pos := "l6_jobs.go:151", after := #[{ on := 9, ground := Go.Ground.data }, { on := 2, ground := Go.Ground.guard }], guard := some (2, true) }) (v := ?_) rfl (by kernel_rfl) (by kernel_rfl) (by kernel_rfl) (fun _ _ _ h => h) (Or.inl ⟨by rfl, ?_⟩) hHeld0 ?_
        rotate_left
        · first | (intro w hSw; (try dsimp only at hSw); go_simp; done) | (intro w hSw; (try dsimp only at hSw); go_simp; with_reducible rfl)
        (try simp only [Act.put, List.setIfInBounds_toArray, List.set_cons_zero, List.set_cons_succ])
        refine wpAnyH_take (i := 11) (oi := { dst := some 32, op := Go.Op.load 26 (Go.Operand.tmp 31), type := 26, pos := "l6_jobs.go:151", after := #[{ on := 10, ground := Go.Ground.data }, { on := 2, ground := Go.Ground.guard }], guard := some (2, true) }) (v := ?_) rfl (by kernel_rfl) (by kernel_rfl) (by kernel_rfl) (fun _ _ _ h => h) (Or.inl ⟨by rfl, ?_⟩) hHeld0 ?_
        rotate_left
        · first | (intro w hSw; (try dsimp only at hSw); go_simp; done) | (intro w hSw; (try dsimp only at hSw); go_simp; with_reducible rfl)
        (try simp only [Act.put, List.setIfInBounds_toArray, List.set_cons_zero, List.set_cons_succ])
        refine wpAnyH_take (i := 12) (oi := { dst := some 33, op := Go.Op.move (Go.Operand.tmp 4), type := 3, pos := "l6_jobs.go:151", after := #[{ on := 2, ground := Go.Ground.guard }], guard := some (2, true) }) (v := ?_) rfl (by kernel_rfl) (by kernel_rfl) (by kernel_rfl) (fun _ _ _ h => h) (Or.inl ⟨by rfl, ?_⟩) hHeld0 ?_
        rotate_left
        · first | (intro w hSw; (try dsimp only at hSw); go_simp; done) | (intro w hSw; (try dsimp only at hSw); go_simp; with_reducible rfl)
        (try simp only [Act.put, List.setIfInBounds_toArray, List.set_cons_zero, List.set_cons_succ])
        refine wpAnyH_take (i := 13) (oi := { dst := some 34, op := Go.Op.binOp Go.BinOp.sub 3 (Go.Operand.tmp 33) (Go.Operand.const (Go.Value.int Go.IntKind.i64 1)) 3, type := 3, pos := "l6_jobs.go:151", after := #[{ on := 12, ground := Go.Ground.data }, { on := 2, ground := Go.Ground.guard }], guard := some (2, true) }) (v := ?_) rfl (by kernel_rfl) (by kernel_rfl) (by kernel_rfl) (fun _ _ _ h => h) (Or.inl ⟨by rfl, ?_⟩) hHeld0 ?_
        rotate_left
        · first | (intro w hSw; (try dsimp only at hSw); go_simp; done) | (intro w hSw; (try dsimp only at hSw); go_simp; with_reducible rfl)
        (try simp only [Act.put, List.setIfInBounds_toArray, List.set_cons_zero, List.set_cons_succ])
        refine wpAnyH_take (i := 14) (oi := { dst := some 35, op := Go.Op.binOp Go.BinOp.quo 3 (Go.Operand.tmp 34) (Go.Operand.const (Go.Value.int Go.IntKind.i64 2)) 3, type := 3, pos := "l6_jobs.go:151", after := #[{ on := 13, ground := Go.Ground.data }, { on := 2, ground := Go.Ground.guard }], guard := some (2, true) }) (v := ?_) rfl (by kernel_rfl) (by kernel_rfl) (by kernel_rfl) (fun _ _ _ h => h) (Or.inl ⟨by rfl, ?_⟩) hHeld0 ?_
        rotate_left
        · first | (intro w hSw; (try dsimp only at hSw); go_simp; done) | (intro w hSw; (try dsimp only at hSw); go_simp; with_reducible rfl)
        (try simp only [Act.put, List.setIfInBounds_toArray, List.set_cons_zero, List.set_cons_succ])
        refine wpAnyH_take (i := 15) (oi := { dst := some 36, op := Go.Op.indexAddr 26 (Go.Operand.tmp 32) (Go.Operand.tmp 35), type := 0, pos := "l6_jobs.go:151", after := #[{ on := 11, ground := Go.Ground.data }, { on := 14, ground := Go.Ground.data }, { on := 2, ground := Go.Ground.guard }], guard := some (2, true) }) (v := ?_) rfl (by kernel_rfl) (by kernel_rfl) (by kernel_rfl) (fun _ _ _ h => h) (Or.inl ⟨by rfl, ?_⟩) hHeld0 ?_
        rotate_left
        · first | (intro w hSw; (try dsimp only at hSw); go_simp; done) | (intro w hSw; (try dsimp only at hSw); go_simp; with_reducible rfl)
        (try simp only [Act.put, List.setIfInBounds_toArray, List.set_cons_zero, List.set_cons_succ])
        refine wpAnyH_take (i := 16) (oi := { dst := some 37, op := Go.Op.load 38 (Go.Operand.tmp 36), type := 38, pos := "l6_jobs.go:151", after := #[{ on := 15, ground := Go.Ground.data }, { on := 2, ground := Go.Ground.guard }], guard := some (2, true) }) (v := ?_) rfl (by kernel_rfl) (by kernel_rfl) (by kernel_rfl) (fun _ _ _ h => h) (Or.inl ⟨by rfl, ?_⟩) hHeld0 ?_
        rotate_left
        · first | (intro w hSw; (try dsimp only at hSw); go_simp; done) | (intro w hSw; (try dsimp only at hSw); go_simp; with_reducible rfl)
        (try simp only [Act.put, List.setIfInBounds_toArray, List.set_cons_zero, List.set_cons_succ])
        refine wpAnyH_ready (rs := [17]) (by kernel_rfl) (by simp) ?_
        refine AllReadyH.cons (o := { dst := some 38, op := Go.Op.call { callee := Go.Callee.value (Go.Operand.tmp 27), args := #[Go.Operand.tmp 28, Go.Operand.tmp 37], argTypes := #[38, 38] }, type := 4, pos := "l6_jobs.go:151", after := #[{ on := 6, ground := Go.Ground.data }, { on := 7, ground := Go.Ground.data }, { on := 16, ground := Go.Ground.data }, { on := 2, ground := Go.Ground.chain }, { on := 2, ground := Go.Ground.guard }], guard := some (2, true) }) rfl (fun K hK => ?_) AllReadyH.nil
        go_simp
        (go_at_call 43; refine (iBef_is _ og (by repeat (first | with_reducible exact HH.out.ord | with_reducible refine OrdAt.drewN ?_ _ | with_reducible refine OrdAt.drew ?_)) ⟨ta, tm, ne⟩ ⟨pa, pm, pe⟩ true HBF.out).mono ?_; rintro e w6 ⟨rfl, hb6⟩; have HB6 := Lib.hid (show Below w4.heap.size w4 w6 from bl_trans (by repeat (first | with_reducible exact Below.refl _ _ | with_reducible refine bl_drewN ?_ _ | with_reducible refine Below.drew ?_)) hb6); clear hb6)
        (try go_wp2_with fail)
        refine hK.out _ _ (by exact ⟨(HB6.out.cell (p := ⟨hb, 0, none⟩) hbl).trans c0, (HB6.out.cell (p := ⟨hb, 1, none⟩) hbl).trans c1, (HB6.out.cell (p := ⟨w.heap.size, 0, none⟩) hxl).trans c2, (HB6.out.cell (p := ⟨w.heap.size, 1, none⟩) hxl).trans c3, (HB6.out.cell (p := ⟨w.heap.size, 2, none⟩) hxl).trans c4, (HB6.out.cell (p := ⟨g, r * 3, none⟩) hgl).trans c5, (HB6.out.cell (p := ⟨g, r * 3 + 1, none⟩) hgl).trans c6, (HB6.out.cell (p := ⟨g, r * 3 + 2, none⟩) hgl).trans c7⟩) (fun hHeld1 => ?_)
        clear hK K
        (try simp only [Act.put, List.setIfInBounds_toArray, List.set_cons_zero, List.set_cons_succ])
        refine wpAnyH_take (i := 18) (oi := { dst := some 39, op := Go.Op.pick (Go.Operand.tmp 23) (Go.Operand.tmp 38) (Go.Operand.const (Go.Value.bool false)), type := 4, pos := "l6_jobs.go:151", after := #[{ on := 2, ground := Go.Ground.data }, { on := 17, ground := Go.Ground.data }], guard := none }) (v := ?_) rfl (by kernel_rfl) (by kernel_rfl) (by kernel_rfl) (fun _ _ _ h => h) (Or.inl ⟨by rfl, ?_⟩) hHeld1 ?_
        rotate_left
        · first | (intro w hSw; (try dsimp only at hSw); go_simp; done) | (intro w hSw; (try dsimp only at hSw); go_simp; with_reducible rfl)
        (try simp only [Act.put, List.setIfInBounds_toArray, List.set_cons_zero, List.set_cons_succ])
        refine wpAnyH_done (by kernel_rfl) ?_ _
        clear c0 c1 c2 c3 c4 c5 c6 c7
        go_wp2_with fail
        refine (iSwap_is _ B hb og hs1 (.slice (some ⟨g, 0, none⟩) (hs.length + 1) cap) (Hp.below HH.out (by repeat (first | with_reducible exact HB6.out | with_reducible refine bl_drewN ?_ _ | with_reducible refine Below.drew ?_))) q r ⟨ta, tm, ne⟩ ⟨pa, pm, pe⟩ HU.out.1 (by rw [← HRQ.out]; exact HPJ.out)).mono ?_
        rintro e w7 ⟨rfl, hh7, hg7⟩
        have HH7 := Lib.hid hh7
        have HUN : Hid (UpInv (swapL hs1 q r ⟨ta, tm, ne⟩ ⟨pa, pm, pe⟩) r ⟨ta, tm, ne⟩) := Lib.hid (by have h1 := up_step HU.out q00 HPJ.out HBF.out; rw [HRQ.out] at h1; exact h1)
        have HPN := Lib.hid ((swap_perm HU.out.1 (show hs1[r]? = some ⟨pa, pm, pe⟩ by rw [← HRQ.out]; exact HPJ.out)).trans HP.out)
        have HLN := Lib.hid (show (swapL hs1 q r ⟨ta, tm, ne⟩ ⟨pa, pm, pe⟩).length = hs.length + 1 by rw [swap_len, HL1.out])
        have BX7 : Hid (Blk w7 w.heap.size 38 #[.int .i64 ta, .int .i64 tm, .int .i64 ne]) := Lib.hid (Blk.grown (Blk.below BX.out (show Below w4.heap.size w4 _ from by repeat (first | with_reducible exact HB6.out | with_reducible refine bl_drewN ?_ _ | with_reducible refine Below.drew ?_)) hxl) hg7 (fun e => by
          have e2 : w.heap.size = g := by injection e
          rcases HATL.out with h1 | h1
          · have := HROW.out g h1; omega
          · omega))
        have HG7 : Hid (Gr2 w w7 hb (Value.slice A0 hs.length cp0).ownBlock) := Lib.hid (Gr2.trans (Gr2.trans HG.out (Gr2.of_below (row := none) (by repeat (first | with_reducible exact HB6.out | with_reducible refine bl_drewN ?_ _ | with_reducible refine Below.drew ?_))) (fun x e => by cases e)) (Gr2.of_gb hg7) (fun x e => by
          have e2 : g = x := by injection e
          subst e2
          exact HAT2.out))
        clear hh7 hg7
        go_wp2
        go_roundw
        case rel => exact ⟨r, _, by go_num, HLN.out, by omega, HH7, HUN, HPN, BX7, HG7⟩
        case measure => simp [intOf]; omega
end

section
/- Contract of sink in the program's heap of jobs. -/
open Go.RowKit
set_option linter.unusedVariables false

/-- The place f holds the least of the place k and of those below it that are before b. -/
def Best (hs : List Jb) (k f b : Nat) : Prop := ∀ x, hs[k]? = some x → ∃ m, hs[f]? = some m ∧ leJ m x ∧ ∀ c y, 2 * k + 1 ≤ c → c < b → hs[c]? = some y → leJ m y
theorem best_start (hs : List Jb) (k : Nat) : Best hs k k (2 * k + 1) := fun x hx => ⟨x, hx, leJ_refl _, fun c y h1 h2 _ => by omega⟩
theorem best_no {hs : List Jb} {k f b : Nat} {m y : Jb} (h : Best hs k f b) (hm : hs[f]? = some m) (hy : hs[b]? = some y) (hb : befB y m = false) : Best hs k f (b + 1) := fun x hx => by
  obtain ⟨m', hm', h1, h2⟩ := h x hx
  rw [hm] at hm'
  injection hm' with hm'
  subst hm'
  refine ⟨m, hm, h1, fun c z hc hcb hz => ?_⟩
  by_cases e : c = b
  · subst e
    rw [hy] at hz
    injection hz with hz
    subst hz
    exact hb
  · exact h2 c z hc (by omega) hz
theorem best_yes {hs : List Jb} {k f b : Nat} {m y : Jb} (h : Best hs k f b) (hm : hs[f]? = some m) (hy : hs[b]? = some y) (hb : befB y m = true) : Best hs k b (b + 1) := fun x hx => by
  obtain ⟨m', hm', h1, h2⟩ := h x hx
  rw [hm] at hm'
  injection hm' with hm'
  subst hm'
  refine ⟨y, hy, leJ_trans (leJ_of_bef hb) h1, fun c z hc hcb hz => ?_⟩
  by_cases e : c = b
  · subst e
    rw [hy] at hz
    injection hz with hz
    subst hz
    exact leJ_refl _
  · exact leJ_trans (leJ_of_bef hb) (h2 c z hc (by omega) hz)
/-- All below the place k were looked at. -/
def Cover (hs : List Jb) (k b : Nat) : Prop := ∀ c, 2 * k + 1 ≤ c → c ≤ 2 * k + 2 → c < b ∨ hs[c]? = none
theorem best_done {hs : List Jb} {k b : Nat} (hd : DownInv hs k) (h : Best hs k k b) (hc : Cover hs k b) : heapP hs := by
  rcases hx : hs[k]? with _ | x
  · intro i y p hi hy hp
    by_cases e : (i - 1) / 2 = k
    · rw [e, hx] at hp; cases hp
    · exact hd.1 i y p hi e hy hp
  · obtain ⟨m, hm, h1, h2⟩ := h x hx
    rw [hx] at hm
    injection hm with hm
    subst hm
    refine down_done hd hx (fun y hy => ?_) (fun y hy => ?_)
    · rcases hc (2 * k + 1) (by omega) (by omega) with e | e
      · exact h2 _ y (by omega) e hy
      · rw [e] at hy; cases hy
    · rcases hc (2 * k + 2) (by omega) (by omega) with e | e
      · exact h2 _ y (by omega) e hy
      · rw [e] at hy; cases hy
theorem best_step {hs : List Jb} {k f b : Nat} {x m : Jb} (hd : DownInv hs k) (h : Best hs k f b) (hc : Cover hs k b) (hx : hs[k]? = some x) (hm : hs[f]? = some m) (hf : f = 2 * k + 1 ∨ f = 2 * k + 2) : DownInv (swapL hs k f x m) f := by
  obtain ⟨m', hm', h1, h2⟩ := h x hx
  rw [hm] at hm'
  injection hm' with hm'
  subst hm'
  refine down_step hd hx hf hm h1 (fun y hy => ?_) (fun y hy => ?_)
  · rcases hc (2 * k + 1) (by omega) (by omega) with e | e
    · exact h2 _ y (by omega) e hy
    · rw [e] at hy; cases hy
  · rcases hc (2 * k + 2) (by omega) (by omega) with e | e
    · exact h2 _ y (by omega) e hy
    · rw [e] at hy; cases hy
/-- A heap whose first element was put down. -/
def SinkRes (B hb og : Nat) (hs : List Jb) (g cap : Nat) (w : World) (e : Ending) (w' : World) : Prop :=
  e = .returned (.tuple #[]) ∧ ∃ hs' : List Jb, Hp w' B hb og hs' (.slice (some ⟨g, 0, none⟩) hs'.length cap) ∧ hs'.length = hs.length ∧ heapP hs' ∧ hs'.Perm hs ∧ Gr2 w w' hb (some g)
set_option maxRecDepth 100000 in
set_option maxHeartbeats 8000000 in
theorem iSink_is (w : World) (B hb og : Nat) (hs : List Jb) (g cap : Nat) (h : Hp w B hb og hs (.slice (some ⟨g, 0, none⟩) hs.length cap)) (hd : DownInv hs 0) (hl : hs.length ≤ 60) :
    Calls Try.prog 67 #[.pointer (some ⟨hb, 0, none⟩)] w (SinkRes B hb og hs g cap w) := by
  have HH := Lib.hid h
  have HD := Lib.hid hd
  clear h hd
  go_enter Try.func67, Try.ntmps67
  go_wp2
  go_loopw [2] (fun i wr => ∃ (k : Nat) (hs1 : List Jb), i = .int .i64 k ∧ Hid (hs1.length = hs.length) ∧ (k < hs.length ∨ k = 0) ∧ Hid (Hp wr B hb og hs1 (.slice (some ⟨g, 0, none⟩) hs.length cap)) ∧ Hid (DownInv hs1 k) ∧ Hid (hs1.Perm hs) ∧ Hid (Gr2 w wr hb (some g))) (fun i _ => hs.length - (intOf i).toNat)
  case atStart => exact ⟨0, hs, rfl, Lib.hid rfl, .inr rfl, HH, HD, Lib.hid (List.Perm.refl _), Lib.hid (Gr2.of_below (Below.refl _ _))⟩
  case round =>
    obtain ⟨k, hs1, rfl, HL1, hkk, HH1, HD, HP, HG1⟩ := hrel
    obtain ⟨w4, hw4⟩ : ∃ W, W = wr := ⟨_, rfl⟩
    subst hw4
    clear HH
    have HBS := Lib.hid (best_start hs1 k)
    go_wp2
    go_loopw [3, 4] (fun i j wr => ∃ (f b : Nat), i = .int .i64 f ∧ j = .int .i64 b ∧ 2 * k + 1 ≤ b ∧ b ≤ 2 * k + 3 ∧ (f = k ∨ (2 * k + 1 ≤ f ∧ f < b ∧ f < hs.length)) ∧ Hid (Best hs1 k f b) ∧ Hid (Hp wr B hb og hs1 (.slice (some ⟨g, 0, none⟩) hs.length cap)) ∧ Hid (Gr2 w wr hb (some g))) (fun _ j _ => 2 * k + 4 - (intOf j).toNat)
    case atStart => exact ⟨k, 2 * k + 1, rfl, by go_num, Nat.le_refl _, by omega, .inl rfl, HBS, HH1, HG1⟩
    case round =>
      obtain ⟨f, b, rfl, rfl, hb1, hb2, hff, HBE, HH, HG⟩ := hrel
      obtain ⟨w4, hw4⟩ : ∃ W, W = wr := ⟨_, rfl⟩
      subst hw4
      clear HH1 HG1 HBS
      have c0 := HH.out.blk.cell 0
      have hbl : hb < w4.heap.size := HH.out.blk.lt
      have hgl : g < w4.heap.size := (World.ownsRow.lt HH.out.own g rfl).2
      by_cases hc1 : b ≤ 2 * k + 2
      · have hc1' : (b : Int) ≤ 2 * (k : Int) + 2 := by omega
        by_cases hc2 : b < hs.length
        · have c1 := HH.out.blk.cell 1
          have hbn' : (b : Int) < (hs.length : Int) := by omega
          have b0 : (0 : Int) ≤ (b : Int) := by omega
          have hkn : k < hs.length := by omega
          have hfn : f < hs.length := by omega
          have f0 : (0 : Int) ≤ (f : Int) := by omega
          have fn : (f : Int) < (hs.length : Int) := by omega
          obtain ⟨y, hy⟩ : ∃ y, hs1[b]? = some y := ⟨hs1[b]'(by have := HL1.out; omega), List.getElem?_eq_getElem _⟩
          obtain ⟨m, hm⟩ : ∃ m, hs1[f]? = some m := ⟨hs1[f]'(by have := HL1.out; omega), List.getElem?_eq_getElem _⟩
          obtain ⟨_, a0, a1, a2⟩ := HH.out.own.reads.2.get hy
          obtain ⟨_, d0, d1, d2⟩ := HH.out.own.reads.2.get hm
          have c2 := a0
          have c3 := a1
          have c4 := a2
          have c5 := d0
          have c6 := d1
          have c7 := d2
          simp only [Nat.zero_add] at c2 c3 c4 c5 c6 c7
          have HY := Lib.hid hy
          have HM := Lib.hid hm
          clear a0 a1 a2 d0 d1 d2 hy hm
          obtain ⟨ya, ym, ye⟩ := y
          obtain ⟨ma, mm, me⟩ := m
          dsimp only at c2 c3 c4 c5 c6 c7
          cases hbf : befB ⟨ya, ym, ye⟩ ⟨ma, mm, me⟩
          · have HBF := Lib.hid hbf
            clear hbf
            go_wp2_with fail
            refine wp_region_held_drew (S := (fun W => W.cell? ⟨hb, 0, none⟩ = some (.slice (some ⟨g, 0, none⟩) hs.length cap) ∧ W.cell? ⟨hb, 1, none⟩ = some (.func (.func 43) #[ordV og] #[]) ∧ W.cell? ⟨g, b * 3, none⟩ = some (.int .i64 ya) ∧ W.cell? ⟨g, b * 3 + 1, none⟩ = some (.int .i64 ym) ∧ W.cell? ⟨g, b * 3 + 2, none⟩ = some (.int .i64 ye) ∧ W.cell? ⟨g, f * 3, none⟩ = some (.int .i64 ma) ∧ W.cell? ⟨g, f * 3 + 1, none⟩ = some (.int .i64 mm) ∧ W.cell? ⟨g, f * 3 + 2, none⟩ = some (.int .i64 me))) (by kernel_rfl) (by exact ⟨c0, c1, c2, c3, c4, c5, c6, c7⟩) (fun hHeld0 => ?_)
            refine wpAnyH_take (i := 0) (oi := { dst := some 25, op := Go.Op.move (Go.Operand.tmp 0), type := 89, pos := "l6_jobs.go:172", after := #[], guard := none }) (v := ?_) rfl (by kernel_rfl) (by kernel_rfl) (by kernel_rfl) (fun _ _ _ h => h) (Or.inl ⟨by rfl, ?_⟩) hHeld0 ?_
            rotate_left
            · first | (intro w hSw; (try dsimp only at hSw); go_simp; done) | (intro w hSw; (try dsimp only at hSw); go_simp; with_reducible rfl)
            (try simp only [Act.put, List.setIfInBounds_toArray, List.set_cons_zero, List.set_cons_succ])
            refine wpAnyH_take (i := 1) (oi := { dst := some 26, op := Go.Op.nilCheck (Go.Operand.tmp 25), type := 0, pos := "l6_jobs.go:172", after := #[{ on := 0, ground := Go.Ground.data }], guard := none }) (v := ?_) rfl (by kernel_rfl) (by kernel_rfl) (by kernel_rfl) (fun _ _ _ h => h) (Or.inl ⟨by rfl, ?_⟩) hHeld0 ?_
            rotate_left
            · first | (intro w hSw; (try dsimp only at hSw); go_simp; done) | (intro w hSw; (try dsimp only at hSw); go_simp; with_reducible rfl)
            (try simp only [Act.put, List.setIfInBounds_toArray, List.set_cons_zero, List.set_cons_succ])
            refine wpAnyH_take (i := 2) (oi := { dst := some 27, op := Go.Op.fieldAddr 70 (Go.Operand.tmp 26) 1, type := 0, pos := "l6_jobs.go:172", after := #[{ on := 1, ground := Go.Ground.data }], guard := none }) (v := ?_) rfl (by kernel_rfl) (by kernel_rfl) (by kernel_rfl) (fun _ _ _ h => h) (Or.inl ⟨by rfl, ?_⟩) hHeld0 ?_
            rotate_left
            · first | (intro w hSw; (try dsimp only at hSw); go_simp; done) | (intro w hSw; (try dsimp only at hSw); go_simp; with_reducible rfl)
            (try simp only [Act.put, List.setIfInBounds_toArray, List.set_cons_zero, List.set_cons_succ])
            refine wpAnyH_take (i := 3) (oi := { dst := some 28, op := Go.Op.load 65 (Go.Operand.tmp 27), type := 65, pos := "l6_jobs.go:172", after := #[{ on := 2, ground := Go.Ground.data }], guard := none }) (v := ?_) rfl (by kernel_rfl) (by kernel_rfl) (by kernel_rfl) (fun _ _ _ h => h) (Or.inl ⟨by rfl, ?_⟩) hHeld0 ?_
            rotate_left
            · first | (intro w hSw; (try dsimp only at hSw); go_simp; done) | (intro w hSw; (try dsimp only at hSw); go_simp; with_reducible rfl)
            (try simp only [Act.put, List.setIfInBounds_toArray, List.set_cons_zero, List.set_cons_succ])
            refine wpAnyH_take (i := 4) (oi := { dst := some 29, op := Go.Op.move (Go.Operand.tmp 0), type := 89, pos := "l6_jobs.go:172", after := #[], guard := none }) (v := ?_) rfl (by kernel_rfl) (by kernel_rfl) (by kernel_rfl) (fun _ _ _ h => h) (Or.inl ⟨by rfl, ?_⟩) hHeld0 ?_
            rotate_left
            · first | (intro w hSw; (try dsimp only at hSw); go_simp; done) | (intro w hSw; (try dsimp only at hSw); go_simp; with_reducible rfl)
            (try simp only [Act.put, List.setIfInBounds_toArray, List.set_cons_zero, List.set_cons_succ])
            refine wpAnyH_take (i := 5) (oi := { dst := some 30, op := Go.Op.nilCheck (Go.Operand.tmp 29), type := 0, pos := "l6_jobs.go:172", after := #[{ on := 4, ground := Go.Ground.data }], guard := none }) (v := ?_) rfl (by kernel_rfl) (by kernel_rfl) (by kernel_rfl) (fun _ _ _ h => h) (Or.inl ⟨by rfl, ?_⟩) hHeld0 ?_
            rotate_left
            · first | (intro w hSw; (try dsimp only at hSw); go_simp; done) | (intro w hSw; (try dsimp only at hSw); go_simp; with_reducible rfl)
            (try simp only [Act.put, List.setIfInBounds_toArray, List.set_cons_zero, List.set_cons_succ])
            refine wpAnyH_take (i := 6) (oi := { dst := some 31, op := Go.Op.fieldAddr 70 (Go.Operand.tmp 30) 0, type := 0, pos := "l6_jobs.go:172", after := #[{ on := 5, ground := Go.Ground.data }], guard := none }) (v := ?_) rfl (by kernel_rfl) (by kernel_rfl) (by kernel_rfl) (fun _ _ _ h => h) (Or.inl ⟨by rfl, ?_⟩) hHeld0 ?_
            rotate_left
            · first | (intro w hSw; (try dsimp only at hSw); go_simp; done) | (intro w hSw; (try dsimp only at hSw); go_simp; with_reducible rfl)
            (try simp only [Act.put, List.setIfInBounds_toArray, List.set_cons_zero, List.set_cons_succ])
            refine wpAnyH_take (i := 7) (oi := { dst := some 32, op := Go.Op.load 26 (Go.Operand.tmp 31), type := 26, pos := "l6_jobs.go:172", after := #[{ on := 6, ground := Go.Ground.data }], guard := none }) (v := ?_) rfl (by kernel_rfl) (by kernel_rfl) (by kernel_rfl) (fun _ _ _ h => h) (Or.inl ⟨by rfl, ?_⟩) hHeld0 ?_
            rotate_left
            · first | (intro w hSw; (try dsimp only at hSw); go_simp; done) | (intro w hSw; (try dsimp only at hSw); go_simp; with_reducible rfl)
            (try simp only [Act.put, List.setIfInBounds_toArray, List.set_cons_zero, List.set_cons_succ])
            refine wpAnyH_take (i := 8) (oi := { dst := some 33, op := Go.Op.move (Go.Operand.tmp 4), type := 3, pos := "l6_jobs.go:172", after := #[], guard := none }) (v := ?_) rfl (by kernel_rfl) (by kernel_rfl) (by kernel_rfl) (fun _ _ _ h => h) (Or.inl ⟨by rfl, ?_⟩) hHeld0 ?_
            rotate_left
            · first | (intro w hSw; (try dsimp only at hSw); go_simp; done) | (intro w hSw; (try dsimp only at hSw); go_simp; with_reducible rfl)
            (try simp only [Act.put, List.setIfInBounds_toArray, List.set_cons_zero, List.set_cons_succ])
            refine wpAnyH_take (i := 9) (oi := { dst := some 34, op := Go.Op.indexAddr 26 (Go.Operand.tmp 32) (Go.Operand.tmp 33), type := 0, pos := "l6_jobs.go:172", after := #[{ on := 7, ground := Go.Ground.data }, { on := 8, ground := Go.Ground.data }], guard := none }) (v := ?_) rfl (by kernel_rfl) (by kernel_rfl) (by kernel_rfl) (fun _ _ _ h => h) (Or.inl ⟨by rfl, ?_⟩) hHeld0 ?_
            rotate_left
            · first | (intro w hSw; (try dsimp only at hSw); go_simp; done) | (intro w hSw; (try dsimp only at hSw); go_simp; with_reducible rfl)
            (try simp only [Act.put, List.setIfInBounds_toArray, List.set_cons_zero, List.set_cons_succ])
            refine wpAnyH_take (i := 10) (oi := { dst := some 35, op := Go.Op.load 38 (Go.Operand.tmp 34), type := 38, pos := "l6_jobs.go:172", after := #[{ on := 9, ground := Go.Ground.data }], guard := none }) (v := ?_) rfl (by kernel_rfl) (by kernel_rfl) (by kernel_rfl) (fun _ _ _ h => h) (Or.inl ⟨by rfl, ?_⟩) hHeld0 ?_
            rotate_left
            · first | (intro w hSw; (try dsimp only at hSw); go_simp; done) | (intro w hSw; (try dsimp only at hSw); go_simp; with_reducible rfl)
            (try simp only [Act.put, List.setIfInBounds_toArray, List.set_cons_zero, List.set_cons_succ])
            refine wpAnyH_take (i := 11) (oi := { dst := some 36, op := Go.Op.move (Go.Operand.tmp 0), type := 89, pos := "l6_jobs.go:172", after := #[], guard := none }) (v := ?_) rfl (by kernel_rfl) (by kernel_rfl) (by kernel_rfl) (fun _ _ _ h => h) (Or.inl ⟨by rfl, ?_⟩) hHeld0 ?_
            rotate_left
            · first | (intro w hSw; (try dsimp only at hSw); go_simp; done) | (intro w hSw; (try dsimp only at hSw); go_simp; with_reducible rfl)
            (try simp only [Act.put, List.setIfInBounds_toArray, List.set_cons_zero, List.set_cons_succ])
            refine wpAnyH_take (i := 12) (oi := { dst := some 37, op := Go.Op.nilCheck (Go.Operand.tmp 36), type := 0, pos := "l6_jobs.go:172", after := #[{ on := 11, ground := Go.Ground.data }], guard := none }) (v := ?_) rfl (by kernel_rfl) (by kernel_rfl) (by kernel_rfl) (fun _ _ _ h => h) (Or.inl ⟨by rfl, ?_⟩) hHeld0 ?_
            rotate_left
            · first | (intro w hSw; (try dsimp only at hSw); go_simp; done) | (intro w hSw; (try dsimp only at hSw); go_simp; with_reducible rfl)
            (try simp only [Act.put, List.setIfInBounds_toArray, List.set_cons_zero, List.set_cons_succ])
            refine wpAnyH_take (i := 13) (oi := { dst := some 38, op := Go.Op.fieldAddr 70 (Go.Operand.tmp 37) 0, type := 0, pos := "l6_jobs.go:172", after := #[{ on := 12, ground := Go.Ground.data }], guard := none }) (v := ?_) rfl (by kernel_rfl) (by kernel_rfl) (by kernel_rfl) (fun _ _ _ h => h) (Or.inl ⟨by rfl, ?_⟩) hHeld0 ?_
            rotate_left
            · first | (intro w hSw; (try dsimp only at hSw); go_simp; done) | (intro w hSw; (try dsimp only at hSw); go_simp; with_reducible rfl)
            (try simp only [Act.put, List.setIfInBounds_toArray, List.set_cons_zero, List.set_cons_succ])
            refine wpAnyH_take (i := 14) (oi := { dst := some 39, op := Go.Op.load 26 (Go.Operand.tmp 38), type := 26, pos := "l6_jobs.go:172", after := #[{ on := 13, ground := Go.Ground.data }], guard := none }) (v := ?_) rfl (by kernel_rfl) (by kernel_rfl) (by kernel_rfl) (fun _ _ _ h => h) (Or.inl ⟨by rfl, ?_⟩) hHeld0 ?_
            rotate_left
            · first | (intro w hSw; (try dsimp only at hSw); go_simp; done) | (intro w hSw; (try dsimp only at hSw); go_simp; with_reducible rfl)
            (try simp only [Act.put, List.setIfInBounds_toArray, List.set_cons_zero, List.set_cons_succ])
            refine wpAnyH_take (i := 15) (oi := { dst := some 40, op := Go.Op.move (Go.Operand.tmp 3), type := 3, pos := "l6_jobs.go:172", after := #[], guard := none }) (v := ?_) rfl (by kernel_rfl) (by kernel_rfl) (by kernel_rfl) (fun _ _ _ h => h) (Or.inl ⟨by rfl, ?_⟩) hHeld0 ?_
            rotate_left
            · first | (intro w hSw; (try dsimp only at hSw); go_simp; done) | (intro w hSw; (try dsimp only at hSw); go_simp; with_reducible rfl)
            (try simp only [Act.put, List.setIfInBounds_toArray, List.set_cons_zero, List.set_cons_succ])
            refine wpAnyH_take (i := 16) (oi := { dst := some 41, op := Go.Op.indexAddr 26 (Go.Operand.tmp 39) (Go.Operand.tmp 40), type := 0, pos := "l6_jobs.go:172", after := #[{ on := 14, ground := Go.Ground.data }, { on := 15, ground := Go.Ground.data }], guard := none }) (v := ?_) rfl (by kernel_rfl) (by kernel_rfl) (by kernel_rfl) (fun _ _ _ h => h) (Or.inl ⟨by rfl, ?_⟩) hHeld0 ?_
            rotate_left
            · first | (intro w hSw; (try dsimp only at hSw); go_simp; done) | (intro w hSw; (try dsimp only at hSw); go_simp; with_reducible rfl)
            (try simp only [Act.put, List.setIfInBounds_toArray, List.set_cons_zero, List.set_cons_succ])
            refine wpAnyH_take (i := 17) (oi := { dst := some 42, op := Go.Op.load 38 (Go.Operand.tmp 41), type := 38, pos := "l6_jobs.go:172", after := #[{ on := 16, ground := Go.Ground.data }], guard := none }) (v := ?_) rfl (by kernel_rfl) (by kernel_rfl) (by kernel_rfl) (fun _ _ _ h => h) (Or.inl ⟨by rfl, ?_⟩) hHeld0 ?_
            rotate_left
            · first | (intro w hSw; (try dsimp only at hSw); go_simp; done) | (intro w hSw; (try dsimp only at hSw); go_simp; with_reducible rfl)
            (try simp only [Act.put, List.setIfInBounds_toArray, List.set_cons_zero, List.set_cons_succ])
            refine wpAnyH_ready (rs := [18]) (by kernel_rfl) (by simp) ?_
            refine AllReadyH.cons (o := { dst := some 43, op := Go.Op.call { callee := Go.Callee.value (Go.Operand.tmp 28), args := #[Go.Operand.tmp 35, Go.Operand.tmp 42], argTypes := #[38, 38] }, type := 4, pos := "l6_jobs.go:172", after := #[{ on := 3, ground := Go.Ground.data }, { on := 10, ground := Go.Ground.data }, { on := 17, ground := Go.Ground.data }], guard := none }) rfl (fun K hK => ?_) AllReadyH.nil
            go_simp
            (go_at_call 43; refine (iBef_is _ og (by repeat (first | with_reducible exact HH.out.ord | with_reducible refine OrdAt.drewN ?_ _ | with_reducible refine OrdAt.drew ?_)) ⟨ya, ym, ye⟩ ⟨ma, mm, me⟩ false HBF.out).mono ?_; rintro e w6 ⟨rfl, hb6⟩; have HB6 := Lib.hid (show Below w4.heap.size w4 w6 from bl_trans (by repeat (first | with_reducible exact Below.refl _ _ | with_reducible refine bl_drewN ?_ _ | with_reducible refine Below.drew ?_)) hb6); clear hb6)
            (try go_wp2_with fail)
            refine hK.out _ _ (by exact ⟨(HB6.out.cell (p := ⟨hb, 0, none⟩) hbl).trans c0, (HB6.out.cell (p := ⟨hb, 1, none⟩) hbl).trans c1, (HB6.out.cell (p := ⟨g, b * 3, none⟩) hgl).trans c2, (HB6.out.cell (p := ⟨g, b * 3 + 1, none⟩) hgl).trans c3, (HB6.out.cell (p := ⟨g, b * 3 + 2, none⟩) hgl).trans c4, (HB6.out.cell (p := ⟨g, f * 3, none⟩) hgl).trans c5, (HB6.out.cell (p := ⟨g, f * 3 + 1, none⟩) hgl).trans c6, (HB6.out.cell (p := ⟨g, f * 3 + 2, none⟩) hgl).trans c7⟩) (fun hHeld1 => ?_)
            clear hK K
            (try simp only [Act.put, List.setIfInBounds_toArray, List.set_cons_zero, List.set_cons_succ])
            refine wpAnyH_done (by kernel_rfl) ?_ _
            have HN := Lib.hid (best_no HBE.out HM.out HY.out HBF.out)
            have HH6 := Lib.hid (Hp.below HH.out (by repeat (first | with_reducible exact HB6.out | with_reducible refine bl_drewN ?_ _ | with_reducible refine Below.drew ?_)))
            have HG6 : Hid (Gr2 w _ hb (some g)) := Lib.hid (Gr2.trans HG.out (Gr2.of_below (row := none) (by repeat (first | with_reducible exact HB6.out | with_reducible refine bl_drewN ?_ _ | with_reducible refine Below.drew ?_))) (fun x e => by cases e))
            clear c0 c1 c2 c3 c4 c5 c6 c7
            go_wp2
            go_roundw
            case rel => exact ⟨f, b + 1, rfl, by go_num, by omega, by omega, by omega, HN, HH6, HG6⟩
            case measure => simp [intOf]; omega
          · have HBF := Lib.hid hbf
            clear hbf
            go_wp2_with fail
            refine wp_region_held_drew (S := (fun W => W.cell? ⟨hb, 0, none⟩ = some (.slice (some ⟨g, 0, none⟩) hs.length cap) ∧ W.cell? ⟨hb, 1, none⟩ = some (.func (.func 43) #[ordV og] #[]) ∧ W.cell? ⟨g, b * 3, none⟩ = some (.int .i64 ya) ∧ W.cell? ⟨g, b * 3 + 1, none⟩ = some (.int .i64 ym) ∧ W.cell? ⟨g, b * 3 + 2, none⟩ = some (.int .i64 ye) ∧ W.cell? ⟨g, f * 3, none⟩ = some (.int .i64 ma) ∧ W.cell? ⟨g, f * 3 + 1, none⟩ = some (.int .i64 mm) ∧ W.cell? ⟨g, f * 3 + 2, none⟩ = some (.int .i64 me))) (by kernel_rfl) (by exact ⟨c0, c1, c2, c3, c4, c5, c6, c7⟩) (fun hHeld0 => ?_)
            refine wpAnyH_take (i := 0) (oi := { dst := some 25, op := Go.Op.move (Go.Operand.tmp 0), type := 89, pos := "l6_jobs.go:172", after := #[], guard := none }) (v := ?_) rfl (by kernel_rfl) (by kernel_rfl) (by kernel_rfl) (fun _ _ _ h => h) (Or.inl ⟨by rfl, ?_⟩) hHeld0 ?_
            rotate_left
            · first | (intro w hSw; (try dsimp only at hSw); go_simp; done) | (intro w hSw; (try dsimp only at hSw); go_simp; with_reducible rfl)
            (try simp only [Act.put, List.setIfInBounds_toArray, List.set_cons_zero, List.set_cons_succ])
            refine wpAnyH_take (i := 1) (oi := { dst := some 26, op := Go.Op.nilCheck (Go.Operand.tmp 25), type := 0, pos := "l6_jobs.go:172", after := #[{ on := 0, ground := Go.Ground.data }], guard := none }) (v := ?_) rfl (by kernel_rfl) (by kernel_rfl) (by kernel_rfl) (fun _ _ _ h => h) (Or.inl ⟨by rfl, ?_⟩) hHeld0 ?_
            rotate_left
            · first | (intro w hSw; (try dsimp only at hSw); go_simp; done) | (intro w hSw; (try dsimp only at hSw); go_simp; with_reducible rfl)
            (try simp only [Act.put, List.setIfInBounds_toArray, List.set_cons_zero, List.set_cons_succ])
            refine wpAnyH_take (i := 2) (oi := { dst := some 27, op := Go.Op.fieldAddr 70 (Go.Operand.tmp 26) 1, type := 0, pos := "l6_jobs.go:172", after := #[{ on := 1, ground := Go.Ground.data }], guard := none }) (v := ?_) rfl (by kernel_rfl) (by kernel_rfl) (by kernel_rfl) (fun _ _ _ h => h) (Or.inl ⟨by rfl, ?_⟩) hHeld0 ?_
            rotate_left
            · first | (intro w hSw; (try dsimp only at hSw); go_simp; done) | (intro w hSw; (try dsimp only at hSw); go_simp; with_reducible rfl)
            (try simp only [Act.put, List.setIfInBounds_toArray, List.set_cons_zero, List.set_cons_succ])
            refine wpAnyH_take (i := 3) (oi := { dst := some 28, op := Go.Op.load 65 (Go.Operand.tmp 27), type := 65, pos := "l6_jobs.go:172", after := #[{ on := 2, ground := Go.Ground.data }], guard := none }) (v := ?_) rfl (by kernel_rfl) (by kernel_rfl) (by kernel_rfl) (fun _ _ _ h => h) (Or.inl ⟨by rfl, ?_⟩) hHeld0 ?_
            rotate_left
            · first | (intro w hSw; (try dsimp only at hSw); go_simp; done) | (intro w hSw; (try dsimp only at hSw); go_simp; with_reducible rfl)
            (try simp only [Act.put, List.setIfInBounds_toArray, List.set_cons_zero, List.set_cons_succ])
            refine wpAnyH_take (i := 4) (oi := { dst := some 29, op := Go.Op.move (Go.Operand.tmp 0), type := 89, pos := "l6_jobs.go:172", after := #[], guard := none }) (v := ?_) rfl (by kernel_rfl) (by kernel_rfl) (by kernel_rfl) (fun _ _ _ h => h) (Or.inl ⟨by rfl, ?_⟩) hHeld0 ?_
            rotate_left
            · first | (intro w hSw; (try dsimp only at hSw); go_simp; done) | (intro w hSw; (try dsimp only at hSw); go_simp; with_reducible rfl)
            (try simp only [Act.put, List.setIfInBounds_toArray, List.set_cons_zero, List.set_cons_succ])
            refine wpAnyH_take (i := 5) (oi := { dst := some 30, op := Go.Op.nilCheck (Go.Operand.tmp 29), type := 0, pos := "l6_jobs.go:172", after := #[{ on := 4, ground := Go.Ground.data }], guard := none }) (v := ?_) rfl (by kernel_rfl) (by kernel_rfl) (by kernel_rfl) (fun _ _ _ h => h) (Or.inl ⟨by rfl, ?_⟩) hHeld0 ?_
            rotate_left
            · first | (intro w hSw; (try dsimp only at hSw); go_simp; done) | (intro w hSw; (try dsimp only at hSw); go_simp; with_reducible rfl)
            (try simp only [Act.put, List.setIfInBounds_toArray, List.set_cons_zero, List.set_cons_succ])
            refine wpAnyH_take (i := 6) (oi := { dst := some 31, op := Go.Op.fieldAddr 70 (Go.Operand.tmp 30) 0, type := 0, pos := "l6_jobs.go:172", after := #[{ on := 5, ground := Go.Ground.data }], guard := none }) (v := ?_) rfl (by kernel_rfl) (by kernel_rfl) (by kernel_rfl) (fun _ _ _ h => h) (Or.inl ⟨by rfl, ?_⟩) hHeld0 ?_
            rotate_left
            · first | (intro w hSw; (try dsimp only at hSw); go_simp; done) | (intro w hSw; (try dsimp only at hSw); go_simp; with_reducible rfl)
            (try simp only [Act.put, List.setIfInBounds_toArray, List.set_cons_zero, List.set_cons_succ])
            refine wpAnyH_take (i := 7) (oi := { dst := some 32, op := Go.Op.load 26 (Go.Operand.tmp 31), type := 26, pos := "l6_jobs.go:172", after := #[{ on := 6, ground := Go.Ground.data }], guard := none }) (v := ?_) rfl (by kernel_rfl) (by kernel_rfl) (by kernel_rfl) (fun _ _ _ h => h) (Or.inl ⟨by rfl, ?_⟩) hHeld0 ?_
            rotate_left
            · first | (intro w hSw; (try dsimp only at hSw); go_simp; done) | (intro w hSw; (try dsimp only at hSw); go_simp; with_reducible rfl)
            (try simp only [Act.put, List.setIfInBounds_toArray, List.set_cons_zero, List.set_cons_succ])
            refine wpAnyH_take (i := 8) (oi := { dst := some 33, op := Go.Op.move (Go.Operand.tmp 4), type := 3, pos := "l6_jobs.go:172", after := #[], guard := none }) (v := ?_) rfl (by kernel_rfl) (by kernel_rfl) (by kernel_rfl) (fun _ _ _ h => h) (Or.inl ⟨by rfl, ?_⟩) hHeld0 ?_
            rotate_left
            · first | (intro w hSw; (try dsimp only at hSw); go_simp; done) | (intro w hSw; (try dsimp only at hSw); go_simp; with_reducible rfl)
            (try simp only [Act.put, List.setIfInBounds_toArray, List.set_cons_zero, List.set_cons_succ])
            refine wpAnyH_take (i := 9) (oi := { dst := some 34, op := Go.Op.indexAddr 26 (Go.Operand.tmp 32) (Go.Operand.tmp 33), type := 0, pos := "l6_jobs.go:172", after := #[{ on := 7, ground := Go.Ground.data }, { on := 8, ground := Go.Ground.data }], guard := none }) (v := ?_) rfl (by kernel_rfl) (by kernel_rfl) (by kernel_rfl) (fun _ _ _ h => h) (Or.inl ⟨by rfl, ?_⟩) hHeld0 ?_
            rotate_left
            · first | (intro w hSw; (try dsimp only at hSw); go_simp; done) | (intro w hSw; (try dsimp only at hSw); go_simp; with_reducible rfl)
            (try simp only [Act.put, List.setIfInBounds_toArray, List.set_cons_zero, List.set_cons_succ])
            refine wpAnyH_take (i := 10) (oi := { dst := some 35, op := Go.Op.load 38 (Go.Operand.tmp 34), type := 38, pos := "l6_jobs.go:172", after := #[{ on := 9, ground := Go.Ground.data }], guard := none }) (v := ?_) rfl (by kernel_rfl) (by kernel_rfl) (by kernel_rfl) (fun _ _ _ h => h) (Or.inl ⟨by rfl, ?_⟩) hHeld0 ?_
            rotate_left
            · first | (intro w hSw; (try dsimp only at hSw); go_simp; done) | (intro w hSw; (try dsimp only at hSw); go_simp; with_reducible rfl)
            (try simp only [Act.put, List.setIfInBounds_toArray, List.set_cons_zero, List.set_cons_succ])
            refine wpAnyH_take (i := 11) (oi := { dst := some 36, op := Go.Op.move (Go.Operand.tmp 0), type := 89, pos := "l6_jobs.go:172", after := #[], guard := none }) (v := ?_) rfl (by kernel_rfl) (by kernel_rfl) (by kernel_rfl) (fun _ _ _ h => h) (Or.inl ⟨by rfl, ?_⟩) hHeld0 ?_
            rotate_left
            · first | (intro w hSw; (try dsimp only at hSw); go_simp; done) | (intro w hSw; (try dsimp only at hSw); go_simp; with_reducible rfl)
            (try simp only [Act.put, List.setIfInBounds_toArray, List.set_cons_zero, List.set_cons_succ])
            refine wpAnyH_take (i := 12) (oi := { dst := some 37, op := Go.Op.nilCheck (Go.Operand.tmp 36), type := 0, pos := "l6_jobs.go:172", after := #[{ on := 11, ground := Go.Ground.data }], guard := none }) (v := ?_) rfl (by kernel_rfl) (by kernel_rfl) (by kernel_rfl) (fun _ _ _ h => h) (Or.inl ⟨by rfl, ?_⟩) hHeld0 ?_
            rotate_left
            · first | (intro w hSw; (try dsimp only at hSw); go_simp; done) | (intro w hSw; (try dsimp only at hSw); go_simp; with_reducible rfl)
            (try simp only [Act.put, List.setIfInBounds_toArray, List.set_cons_zero, List.set_cons_succ])
            refine wpAnyH_take (i := 13) (oi := { dst := some 38, op := Go.Op.fieldAddr 70 (Go.Operand.tmp 37) 0, type := 0, pos := "l6_jobs.go:172", after := #[{ on := 12, ground := Go.Ground.data }], guard := none }) (v := ?_) rfl (by kernel_rfl) (by kernel_rfl) (by kernel_rfl) (fun _ _ _ h => h) (Or.inl ⟨by rfl, ?_⟩) hHeld0 ?_
            rotate_left
            · first | (intro w hSw; (try dsimp only at hSw); go_simp; done) | (intro w hSw; (try dsimp only at hSw); go_simp; with_reducible rfl)
            (try simp only [Act.put, List.setIfInBounds_toArray, List.set_cons_zero, List.set_cons_succ])
            refine wpAnyH_take (i := 14) (oi := { dst := some 39, op := Go.Op.load 26 (Go.Operand.tmp 38), type := 26, pos := "l6_jobs.go:172", after := #[{ on := 13, ground := Go.Ground.data }], guard := none }) (v := ?_) rfl (by kernel_rfl) (by kernel_rfl) (by kernel_rfl) (fun _ _ _ h => h) (Or.inl ⟨by rfl, ?_⟩) hHeld0 ?_
            rotate_left
            · first | (intro w hSw; (try dsimp only at hSw); go_simp; done) | (intro w hSw; (try dsimp only at hSw); go_simp; with_reducible rfl)
            (try simp only [Act.put, List.setIfInBounds_toArray, List.set_cons_zero, List.set_cons_succ])
            refine wpAnyH_take (i := 15) (oi := { dst := some 40, op := Go.Op.move (Go.Operand.tmp 3), type := 3, pos := "l6_jobs.go:172", after := #[], guard := none }) (v := ?_) rfl (by kernel_rfl) (by kernel_rfl) (by kernel_rfl) (fun _ _ _ h => h) (Or.inl ⟨by rfl, ?_⟩) hHeld0 ?_
            rotate_left
            · first | (intro w hSw; (try dsimp only at hSw); go_simp; done) | (intro w hSw; (try dsimp only at hSw); go_simp; with_reducible rfl)
            (try simp only [Act.put, List.setIfInBounds_toArray, List.set_cons_zero, List.set_cons_succ])
            refine wpAnyH_take (i := 16) (oi := { dst := some 41, op := Go.Op.indexAddr 26 (Go.Operand.tmp 39) (Go.Operand.tmp 40), type := 0, pos := "l6_jobs.go:172", after := #[{ on := 14, ground := Go.Ground.data }, { on := 15, ground := Go.Ground.data }], guard := none }) (v := ?_) rfl (by kernel_rfl) (by kernel_rfl) (by kernel_rfl) (fun _ _ _ h => h) (Or.inl ⟨by rfl, ?_⟩) hHeld0 ?_
            rotate_left
            · first | (intro w hSw; (try dsimp only at hSw); go_simp; done) | (intro w hSw; (try dsimp only at hSw); go_simp; with_reducible rfl)
            (try simp only [Act.put, List.setIfInBounds_toArray, List.set_cons_zero, List.set_cons_succ])
            refine wpAnyH_take (i := 17) (oi := { dst := some 42, op := Go.Op.load 38 (Go.Operand.tmp 41), type := 38, pos := "l6_jobs.go:172", after := #[{ on := 16, ground := Go.Ground.data }], guard := none }) (v := ?_) rfl (by kernel_rfl) (by kernel_rfl) (by kernel_rfl) (fun _ _ _ h => h) (Or.inl ⟨by rfl, ?_⟩) hHeld0 ?_
            rotate_left
            · first | (intro w hSw; (try dsimp only at hSw); go_simp; done) | (intro w hSw; (try dsimp only at hSw); go_simp; with_reducible rfl)
            (try simp only [Act.put, List.setIfInBounds_toArray, List.set_cons_zero, List.set_cons_succ])
            refine wpAnyH_ready (rs := [18]) (by kernel_rfl) (by simp) ?_
            refine AllReadyH.cons (o := { dst := some 43, op := Go.Op.call { callee := Go.Callee.value (Go.Operand.tmp 28), args := #[Go.Operand.tmp 35, Go.Operand.tmp 42], argTypes := #[38, 38] }, type := 4, pos := "l6_jobs.go:172", after := #[{ on := 3, ground := Go.Ground.data }, { on := 10, ground := Go.Ground.data }, { on := 17, ground := Go.Ground.data }], guard := none }) rfl (fun K hK => ?_) AllReadyH.nil
            go_simp
            (go_at_call 43; refine (iBef_is _ og (by repeat (first | with_reducible exact HH.out.ord | with_reducible refine OrdAt.drewN ?_ _ | with_reducible refine OrdAt.drew ?_)) ⟨ya, ym, ye⟩ ⟨ma, mm, me⟩ true HBF.out).mono ?_; rintro e w6 ⟨rfl, hb6⟩; have HB6 := Lib.hid (show Below w4.heap.size w4 w6 from bl_trans (by repeat (first | with_reducible exact Below.refl _ _ | with_reducible refine bl_drewN ?_ _ | with_reducible refine Below.drew ?_)) hb6); clear hb6)
            (try go_wp2_with fail)
            refine hK.out _ _ (by exact ⟨(HB6.out.cell (p := ⟨hb, 0, none⟩) hbl).trans c0, (HB6.out.cell (p := ⟨hb, 1, none⟩) hbl).trans c1, (HB6.out.cell (p := ⟨g, b * 3, none⟩) hgl).trans c2, (HB6.out.cell (p := ⟨g, b * 3 + 1, none⟩) hgl).trans c3, (HB6.out.cell (p := ⟨g, b * 3 + 2, none⟩) hgl).trans c4, (HB6.out.cell (p := ⟨g, f * 3, none⟩) hgl).trans c5, (HB6.out.cell (p := ⟨g, f * 3 + 1, none⟩) hgl).trans c6, (HB6.out.cell (p := ⟨g, f * 3 + 2, none⟩) hgl).trans c7⟩) (fun hHeld1 => ?_)
            clear hK K
            (try simp only [Act.put, List.setIfInBounds_toArray, List.set_cons_zero, List.set_cons_succ])
            refine wpAnyH_done (by kernel_rfl) ?_ _
            have HN := Lib.hid (best_yes HBE.out HM.out HY.out HBF.out)
            have HH6 := Lib.hid (Hp.below HH.out (by repeat (first | with_reducible exact HB6.out | with_reducible refine bl_drewN ?_ _ | with_reducible refine Below.drew ?_)))
            have HG6 : Hid (Gr2 w _ hb (some g)) := Lib.hid (Gr2.trans HG.out (Gr2.of_below (row := none) (by repeat (first | with_reducible exact HB6.out | with_reducible refine bl_drewN ?_ _ | with_reducible refine Below.drew ?_))) (fun x e => by cases e))
            clear c0 c1 c2 c3 c4 c5 c6 c7
            go_wp2
            go_roundw
            case rel => exact ⟨b, b + 1, rfl, by go_num, by omega, by omega, by omega, HN, HH6, HG6⟩
            case measure => simp [intOf]; omega
        · have hc2' : ¬ (b : Int) < (hs.length : Int) := by omega
          have HCV := Lib.hid (show Cover hs1 k b from fun c h1 h2 => by
            by_cases e : c < b
            · exact .inl e
            · exact .inr (List.getElem?_eq_none (by have := HL1.out; omega)))
          by_cases hfk : f = k
          · subst hfk
            have hee : ((f : Int) == (f : Int)) = true := by simp
            have HDN := Lib.hid (show heapP hs1 from best_done HD.out HBE.out HCV.out)
            go_wp2
            go_end0
            exact ⟨rfl, hs1, by rw [HL1.out]; exact HH.out, HL1.out, HDN.out, HP.out, HG.out⟩
          · have hfb : 2 * k + 1 ≤ f ∧ f < b ∧ f < hs.length := by omega
            have hkn : k < hs.length := by omega
            have hee : ((f : Int) == (k : Int)) = false := by simp; omega
            obtain ⟨x, hx⟩ : ∃ x, hs1[k]? = some x := ⟨hs1[k]'(by have := HL1.out; omega), List.getElem?_eq_getElem _⟩
            obtain ⟨m, hm, hmx, hmc⟩ := HBE.out x hx
            have HDS := Lib.hid (show DownInv (swapL hs1 k f x m) f from best_step HD.out HBE.out HCV.out hx hm (by omega))
            have HX := Lib.hid hx
            have HM := Lib.hid hm
            clear hx hm hmx hmc
            go_wp2_with fail
            refine (iSwap_is _ B hb og hs1 (.slice (some ⟨g, 0, none⟩) hs.length cap) HH.out k f x m HX.out HM.out).mono ?_
            rintro e w7 ⟨rfl, hh7, hg7⟩
            have HH7 := Lib.hid hh7
            have HG7 : Hid (Gr2 w w7 hb (some g)) := Lib.hid (Gr2.trans HG.out (Gr2.of_gb hg7) (fun x e => .inl e))
            have HPN := Lib.hid ((swap_perm HX.out HM.out).trans HP.out)
            have HLN := Lib.hid (show (swapL hs1 k f x m).length = hs.length by rw [swap_len, HL1.out])
            clear hh7 hg7
            go_wp2
            go_roundw
            case rel => exact ⟨f, _, rfl, HLN, by omega, HH7, HDS, HPN, HG7⟩
            case measure => simp [intOf]; omega
      · have hc1' : ¬ (b : Int) ≤ 2 * (k : Int) + 2 := by omega
        have HCV := Lib.hid (show Cover hs1 k b from fun c h1 h2 => .inl (by omega))
        by_cases hfk : f = k
        · subst hfk
          have hee : ((f : Int) == (f : Int)) = true := by simp
          have HDN := Lib.hid (show heapP hs1 from best_done HD.out HBE.out HCV.out)
          go_wp2
          go_end0
          exact ⟨rfl, hs1, by rw [HL1.out]; exact HH.out, HL1.out, HDN.out, HP.out, HG.out⟩
        · have hfb : 2 * k + 1 ≤ f ∧ f < b ∧ f < hs.length := by omega
          have hkn : k < hs.length := by omega
          have hee : ((f : Int) == (k : Int)) = false := by simp; omega
          obtain ⟨x, hx⟩ : ∃ x, hs1[k]? = some x := ⟨hs1[k]'(by have := HL1.out; omega), List.getElem?_eq_getElem _⟩
          obtain ⟨m, hm, hmx, hmc⟩ := HBE.out x hx
          have HDS := Lib.hid (show DownInv (swapL hs1 k f x m) f from best_step HD.out HBE.out HCV.out hx hm (by omega))
          have HX := Lib.hid hx
          have HM := Lib.hid hm
          clear hx hm hmx hmc
          go_wp2_with fail
          refine (iSwap_is _ B hb og hs1 (.slice (some ⟨g, 0, none⟩) hs.length cap) HH.out k f x m HX.out HM.out).mono ?_
          rintro e w7 ⟨rfl, hh7, hg7⟩
          have HH7 := Lib.hid hh7
          have HG7 : Hid (Gr2 w w7 hb (some g)) := Lib.hid (Gr2.trans HG.out (Gr2.of_gb hg7) (fun x e => .inl e))
          have HPN := Lib.hid ((swap_perm HX.out HM.out).trans HP.out)
          have HLN := Lib.hid (show (swapL hs1 k f x m).length = hs.length by rw [swap_len, HL1.out])
          clear hh7 hg7
          go_wp2
          go_roundw
          case rel => exact ⟨f, _, rfl, HLN, by omega, HH7, HDS, HPN, HG7⟩
          case measure => simp [intOf]; omega
end

section
/- Contract of pop in the program's heap of jobs. -/
open Go.RowKit
set_option linter.unusedVariables false

theorem Gr2.blk {w w' : World} {hb x : Nat} {row : Option Nat} {t : TypeId} {cs : Array Value} (h : Gr2 w w' hb row) (hx : Blk w x t cs) (h1 : x ≠ hb) (h2 : some x ≠ row) : Blk w' x t cs := (h.block x hx.lt h1 h2).trans hx
theorem OwnJ.less_ {w : World} {B g n cap : Nat} {js : List Jb} (h : OwnJ w B (.slice (some ⟨g, 0, none⟩) (n + 1) cap) js) : OwnJ w B (.slice (some ⟨g, 0, none⟩) n cap) (js.take n) := by
  obtain ⟨hnl, hBg, cur, hcur, hnN, hNm, hcs, htk⟩ := jown_block h
  have hl : (js.take n).length = n := by rw [List.length_take]; omega
  have h2 := jown_of_block (ts := js.take n) (N := cap) (cur := cur) hBg hcur (by rw [hl]; omega) hNm hcs (by
    rw [hl, ← jtake_cells, ← htk, List.take_take, Nat.min_eq_left (by omega)])
  rwa [hl] at h2
theorem OwnJ.setApart {w : World} {B g n c : Nat} {ts : List Jb} (h : OwnJ w B (.slice (some ⟨g, 0, none⟩) n c) ts) {a : Addr} (ha : g ≠ a.block) (u : Value) : OwnJ (w.setCell a u) B (.slice (some ⟨g, 0, none⟩) n c) ts :=
  ⟨h.1, by
    rcases h.2 with h2 | ⟨g', cap, cur, e, hb, hg, rest⟩
    · exact .inl h2
    · have e2 := e
      injection e2 with e1 _ _
      injection e1 with e1
      injection e1 with e1 _ _
      subst e1
      exact .inr ⟨g, cap, cur, e, hb, (Below.heap_setCell w a u g ha).trans hg, rest⟩⟩
theorem Hp.setApart {w : World} {B hb og g n c : Nat} {hs : List Jb} (h : Hp w B hb og hs (.slice (some ⟨g, 0, none⟩) n c)) {a : Addr} (h1 : hb ≠ a.block) (h2 : og ≠ a.block) (h3 : g ≠ a.block) (u : Value) : Hp (w.setCell a u) B hb og hs (.slice (some ⟨g, 0, none⟩) n c) :=
  ⟨h.blk.far h1 u, h.own.setApart h3 u, h.lt, h.ord.setFar h2 u, h.ogB, h.hog⟩
theorem Gr2.setNew {w w' : World} {hb : Nat} {row : Option Nat} (h : Gr2 w w' hb row) {a : Addr} (ha : w.heap.size ≤ a.block) (u : Value) : Gr2 w (w'.setCell a u) hb row :=
  ⟨h.os, h.tape, h.output, by simp [World.setCell]; exact h.size, fun k hk h1 h2 => (Below.heap_setCell w' a u k (by omega)).trans (h.block k hk h1 h2)⟩
/-- The first job of a heap, and what is left. -/
def PopRes (B hb og : Nat) (hs : List Jb) (g cap : Nat) (j : Jb) (w : World) (e : Ending) (w' : World) : Prop :=
  e = .returned j.val ∧ ∃ hs' : List Jb, Hp w' B hb og hs' (.slice (some ⟨g, 0, none⟩) hs'.length cap) ∧ heapP hs' ∧ (j :: hs').Perm hs ∧ Gr2 w w' hb (some g)
set_option maxRecDepth 100000 in
set_option maxHeartbeats 8000000 in
theorem iPop_is (w : World) (B hb og : Nat) (hs : List Jb) (g cap n : Nat) (hn : hs.length = n + 1) (h : Hp w B hb og hs (.slice (some ⟨g, 0, none⟩) (n + 1) cap)) (hp : heapP hs) (hl : n ≤ 60) (j : Jb) (hj : hs[0]? = some j) :
    Calls Try.prog 46 #[.pointer (some ⟨hb, 0, none⟩)] w (PopRes B hb og hs g cap j w) := by
  have HH := Lib.hid h
  have HP := Lib.hid hp
  have HN := Lib.hid hn
  have HJ := Lib.hid hj
  obtain ⟨y, hy⟩ : ∃ y, hs[n]? = some y := ⟨hs[n]'(by omega), List.getElem?_eq_getElem _⟩
  have HY := Lib.hid hy
  obtain ⟨_, d0, d1, d2⟩ := h.own.reads.2.get hj
  have hgl : g < w.heap.size := (World.ownsRow.lt h.own g rfl).2
  have hgB : B ≤ g := (World.ownsRow.lt h.own g rfl).1
  have hbl : hb < w.heap.size := h.blk.lt
  have hbB := h.lt
  have hnc : n + 1 ≤ cap := by
    have h1 := h.own
    have e := h1.reads.1
    rw [e] at h1 ⊢
    exact h1.le
  have e0 := h.blk.cell 0
  obtain ⟨ta, tm, ne⟩ := j
  dsimp only at d0 d1 d2
  simp only [Nat.zero_add, Nat.zero_mul] at d0 d1 d2
  have c0 := (World.cell?_alloc_lt w (.cells #[.int .i64 0, .int .i64 0, .int .i64 0] 38) ⟨hb, 0, none⟩ hbl).trans e0
  have c1 := (World.cell?_alloc_lt w (.cells #[.int .i64 0, .int .i64 0, .int .i64 0] 38) ⟨g, 0, none⟩ hgl).trans d0
  have c2 := (World.cell?_alloc_lt w (.cells #[.int .i64 0, .int .i64 0, .int .i64 0] 38) ⟨g, 1, none⟩ hgl).trans d1
  have c3 := (World.cell?_alloc_lt w (.cells #[.int .i64 0, .int .i64 0, .int .i64 0] 38) ⟨g, 2, none⟩ hgl).trans d2
  have b0 := (World.cell?_alloc_lt (w.alloc (.cells #[.int .i64 0, .int .i64 0, .int .i64 0] 38)) (.cells #[.int .i64 ta, .int .i64 tm, .int .i64 ne] 38) ⟨hb, 0, none⟩ (by simp; omega)).trans c0
  have b1 := (World.cell?_alloc_lt (w.alloc (.cells #[.int .i64 0, .int .i64 0, .int .i64 0] 38)) (.cells #[.int .i64 ta, .int .i64 tm, .int .i64 ne] 38) ⟨g, 0, none⟩ (by simp; omega)).trans c1
  have b2 := (World.cell?_alloc_lt (w.alloc (.cells #[.int .i64 0, .int .i64 0, .int .i64 0] 38)) (.cells #[.int .i64 ta, .int .i64 tm, .int .i64 ne] 38) ⟨g, 1, none⟩ (by simp; omega)).trans c2
  have b3 := (World.cell?_alloc_lt (w.alloc (.cells #[.int .i64 0, .int .i64 0, .int .i64 0] 38)) (.cells #[.int .i64 ta, .int .i64 tm, .int .i64 ne] 38) ⟨g, 2, none⟩ (by simp; omega)).trans c3
  have n0 : (0 : Int) < (n : Int) + 1 := by omega
  have kw : IntKind.i64.wrap ((n : Int) + 1 - 1) = (n : Int) := by rw [IntWalk.i64_in _ (by omega)]; omega
  have kw2 : IntKind.i64.wrap (n : Int) = (n : Int) := IntWalk.i64_in _ (by omega)
  have n1 : (n : Int) ≤ (cap : Int) := by omega
  have n2 : n ≤ cap := by omega
  clear h hp hn hj hy d0 d1 d2 e0
  unfold Jb.val at *
  go_enter Try.func46, Try.ntmps46
  go_wp2
  go_region_held3 (fun W => W.cell? ⟨hb, 0, none⟩ = some (.slice (some ⟨g, 0, none⟩) (n + 1) cap) ∧ W.cell? ⟨g, 0, none⟩ = some (.int .i64 ta) ∧ W.cell? ⟨g, 1, none⟩ = some (.int .i64 tm) ∧ W.cell? ⟨g, 2, none⟩ = some (.int .i64 ne)) (first | exact ⟨c0, c1, c2, c3⟩ | exact ⟨b0, b1, b2, b3⟩ | assumption | (simp [go_sem, *]; done)) (fail)
  have HW1 := Lib.hid (show Below w.heap.size w ((w.alloc (.cells #[.int .i64 0, .int .i64 0, .int .i64 0] 38)).alloc (.cells #[.int .i64 ta, .int .i64 tm, .int .i64 ne] 38)).drew from Below.drew (bl_alloc (bl_alloc (Below.refl _ _) _) _))
  have BR1 : Hid (Blk ((w.alloc (.cells #[.int .i64 0, .int .i64 0, .int .i64 0] 38)).alloc (.cells #[.int .i64 ta, .int .i64 tm, .int .i64 ne] 38)).drew w.heap.size 38 #[.int .i64 0, .int .i64 0, .int .i64 0]) := Lib.hid ((Blk.new w 38 #[.int .i64 0, .int .i64 0, .int .i64 0]).alloc _)
  have BF1 : Hid (Blk ((w.alloc (.cells #[.int .i64 0, .int .i64 0, .int .i64 0] 38)).alloc (.cells #[.int .i64 ta, .int .i64 tm, .int .i64 ne] 38)).drew (w.heap.size + 1) 38 #[.int .i64 ta, .int .i64 tm, .int .i64 ne]) := Lib.hid (by
    have h1 := Blk.new (w.alloc (.cells #[.int .i64 0, .int .i64 0, .int .i64 0] 38)) 38 #[.int .i64 ta, .int .i64 tm, .int .i64 ne]
    rw [World.size_alloc] at h1
    exact h1)
  have HH1 := Lib.hid (HH.out.below HW1.out)
  have hs1 : w.heap.size + 1 < ((w.alloc (.cells #[.int .i64 0, .int .i64 0, .int .i64 0] 38)).alloc (.cells #[.int .i64 ta, .int .i64 tm, .int .i64 ne] 38)).drew.heap.size := BF1.out.lt
  clear c0 c1 c2 c3 b0 b1 b2 b3
  generalize ((w.alloc (.cells #[.int .i64 0, .int .i64 0, .int .i64 0] 38)).alloc (.cells #[.int .i64 ta, .int .i64 tm, .int .i64 ne] 38)).drew = w1 at *
  go_wp2_with fail
  refine (iSwap_is _ B hb og hs (.slice (some ⟨g, 0, none⟩) (n + 1) cap) HH1.out 0 n ⟨ta, tm, ne⟩ y HJ.out HY.out).mono ?_
  rintro e w2 ⟨rfl, hh2, hg2⟩
  have HH2 := Lib.hid hh2
  have hg2' : w1.grownBy w2 (some g) := hg2
  have HG2 : Hid (Gr2 w w2 hb (some g)) := Lib.hid (Gr2.trans (Gr2.of_below HW1.out) (Gr2.of_gb hg2') (fun x e => .inl e))
  have BR2 := Lib.hid (BR1.out.grown hg2' (by intro e; injection e with e; omega))
  have BF2 := Lib.hid (BF1.out.grown hg2' (by intro e; injection e with e; omega))
  clear hh2 hg2 hg2' BR1 BF1 HH1
  have c0 := HH2.out.blk.cell 0
  have f0 := HH2.out.blk.frozen 0
  have HH3 : Hid (Hp (w2.setCell ⟨hb, 0, none⟩ (.slice (some ⟨g, 0, none⟩) n cap)) B hb og ((swapL hs 0 n ⟨ta, tm, ne⟩ y).take n) (.slice (some ⟨g, 0, none⟩) n cap)) := Lib.hid ⟨HH2.out.blk.set_ 0 _, (OwnJ.less_ HH2.out.own).setFar hbB _, hbB, HH2.out.ord.setFar HH2.out.hog _, HH2.out.ogB, HH2.out.hog⟩
  have HG3 := Lib.hid (HG2.out.set 0 (.slice (some ⟨g, 0, none⟩) n cap))
  have BR3 := Lib.hid (BR2.out.far (p := ⟨hb, 0, none⟩) (by dsimp only; omega) (.slice (some ⟨g, 0, none⟩) n cap))
  have BF3 := Lib.hid (BF2.out.far (p := ⟨hb, 0, none⟩) (by dsimp only; omega) (.slice (some ⟨g, 0, none⟩) n cap))
  have HTL := Lib.hid (show ((swapL hs 0 n ⟨ta, tm, ne⟩ y).take n).length = n by rw [List.length_take, swap_len, HN.out]; omega)
  have HDI := Lib.hid (pop_start HP.out HN.out HJ.out HY.out)
  have HPM := Lib.hid (take_swap_perm HN.out HJ.out HY.out)
  clear HH2 HG2 BR2 BF2
  go_wp2_with fail
  clear c0 f0
  refine (iSink_is _ B hb og _ g cap (by rw [HTL.out]; exact HH3.out) HDI.out (by rw [HTL.out]; omega)).mono ?_
  rintro e w4 ⟨rfl, hs', hh4, hl4, hp4, hm4, hg4⟩
  have HH4 := Lib.hid hh4
  have HP4 := Lib.hid hp4
  have HM4 := Lib.hid ((List.Perm.cons ⟨ta, tm, ne⟩ hm4).trans HPM.out)
  have HG4 := Lib.hid (Gr2.trans HG3.out hg4 (fun x e => .inl e))
  have BR4 := Lib.hid (hg4.blk BR3.out (by omega) (by intro e; injection e with e; omega))
  have BF4 := Lib.hid (hg4.blk BF3.out (by omega) (by intro e; injection e with e; omega))
  clear hh4 hl4 hp4 hm4 hg4 HG3 BR3 BF3 HH3
  have c0 := BF4.out.cell 0
  have c1 := BF4.out.cell 1
  have c2 := BF4.out.cell 2
  have r0 := BR4.out.cell 0
  have r1 := BR4.out.cell 1
  have r2 := BR4.out.cell 2
  have fr := BR4.out.frozen
  have cF := fun (s t u : Value) => (((BR4.out.set_ 0 s).set_ 1 t).set_ 2 u).cell
  go_wp2
  refine bodyPost_ret (v := .agg #[.int .i64 ta, .int .i64 tm, .int .i64 ne]) (by simp [results, Try.results46, go_sem, cF]) rfl ⟨rfl, hs', ?_, HP4.out, HM4.out, ?_⟩
  · repeat (refine Hp.setApart ?_ (by dsimp only; omega) (by dsimp only; have := HH4.out.ogB; omega) (by dsimp only; omega) _)
    exact HH4.out
  · repeat (refine Gr2.setNew ?_ (by dsimp only; omega) _)
    exact HG4.out
end

section
/- Contract of the program's WorstJobs. Nothing that was there is written. -/
open Go.RowKit
set_option linter.unusedVariables false

theorem OwnJ.gr2 {w w' : World} {B hb : Nat} {v : Value} {js : List Jb} {row : Option Nat} (h : OwnJ w B v js) (hg : Gr2 w w' hb row) (h1 : hb < B) (h2 : ∀ k, v.ownBlock = some k → row ≠ some k) : OwnJ w' B v js :=
  ⟨h.1, by
    rcases h.2 with h3 | ⟨g, cap, cur, e, hb', hc, rest⟩
    · exact .inl h3
    · have hl : g < w.heap.size := (World.ownsRow.lt h g (by rw [e]; rfl)).2
      exact .inr ⟨g, cap, cur, e, hb', (hg.block g hl (by omega) (fun e2 => h2 g (by rw [e]; rfl) e2.symm)).trans hc, rest⟩⟩
theorem Hp.grown {w w' : World} {B hb og g n c : Nat} {hs : List Jb} {row : Option Nat} (h : Hp w B hb og hs (.slice (some ⟨g, 0, none⟩) n c)) (hg : w.grownBy w' row) (h1 : some hb ≠ row) (h2 : some og ≠ row) (h3 : some g ≠ row) : Hp w' B hb og hs (.slice (some ⟨g, 0, none⟩) n c) :=
  ⟨h.blk.grown hg h1, World.ownsRow.kept h.own hg (.inr (fun e => h3 (by rw [← e]; rfl))), h.lt, h.ord.grown hg h2, h.ogB, h.hog⟩
theorem OwnJ.blockLt {w : World} {B : Nat} {v : Value} {js : List Jb} (h : OwnJ w B v js) {k : Nat} (hk : v.ownBlock = some k) : B ≤ k ∧ k < w.heap.size := World.ownsRow.lt h k hk
theorem OwnJ.pos_form {w : World} {B : Nat} {v : Value} {js : List Jb} {n : Nat} (h : OwnJ w B v js) (hn : js.length = n + 1) : ∃ g c, v = .slice (some ⟨g, 0, none⟩) (n + 1) c := by
  obtain ⟨g, c, e⟩ := h.some_ (by omega)
  exact ⟨g, c, by rw [e, hn]⟩
def lenOf : Value → Nat
  | .slice _ n _ => n
  | _ => 0
set_option maxRecDepth 100000 in
set_option maxHeartbeats 8000000 in
theorem iWorst_no (w : World) (A : Option Addr) (n c : Nat) (ts : List Tk) (h : Tks w w.heap.size A n ts) (hn : n ≤ 1048576) (u : Int) (hi : Bool) (hno : (setB ts && (decide (0 ≤ u) && decide (u ≤ 200))) = false) :
    Calls Try.prog 15 #[.slice A n c, .int .i64 u, .bool hi] w (JsRes2 [] false w) := by
  have H := Lib.hid h
  clear h
  cases hs : setB ts
  · have HS := Lib.hid hs
    clear hs hno
    go_enter Try.func15, Try.ntmps15
    go_wp2_with fail
    refine (iSetValid_any _ A n c ts H.out hn).mono ?_
    rintro e w1 ⟨rfl, hb⟩
    rw [HS.out]
    go_wp2
    go_ret2
    exact ⟨none, 0, rfl, OwnJ.nil_ _ _, hb⟩
  have HS := Lib.hid hs
  rw [hs, Bool.true_and] at hno
  clear hs
  by_cases h0 : 0 ≤ u
  · have h1 : ¬ u ≤ 200 := fun h1 => by rw [decide_eq_true h0, decide_eq_true h1] at hno; cases hno
    have d0 : ¬ u < 0 := by omega
    have d1 : (200 : Int) < u := by omega
    clear hno
    go_enter Try.func15, Try.ntmps15
    go_wp2_with fail
    refine (iSetValid_any _ A n c ts H.out hn).mono ?_
    rintro e w1 ⟨rfl, hb⟩
    rw [HS.out]
    go_wp2
    go_ret2
    exact ⟨none, 0, rfl, OwnJ.nil_ _ _, hb⟩
  · have d0 : u < 0 := by omega
    clear hno
    go_enter Try.func15, Try.ntmps15
    go_wp2_with fail
    refine (iSetValid_any _ A n c ts H.out hn).mono ?_
    rintro e w1 ⟨rfl, hb⟩
    rw [HS.out]
    go_wp2
    go_ret2
    exact ⟨none, 0, rfl, OwnJ.nil_ _ _, hb⟩
set_option maxRecDepth 100000 in
set_option maxHeartbeats 8000000 in
theorem iWorst_yes (w : World) (A : Option Addr) (n c : Nat) (ts : List Tk) (h : Tks w w.heap.size A n ts) (u : Nat) (hu : u ≤ 200) (hi : Bool) (hset : setB ts = true) (b : Bool) (V : List Jb)
    (hV : (b, V) = if (worstL hi ts u).length ≤ 60 then (true, worstL hi ts u) else (false, [])) :
    Calls Try.prog 15 #[.slice A n c, .int .i64 u, .bool hi] w (JsRes2 V b w) := by
  obtain ⟨i0, hi0, hz0, hz1, hz2⟩ := info_parts info_job
  have hn5 : n ≤ 5 := by have := setB_len hset; rw [h.len] at this; exact this
  have hok : ∀ t ∈ ts, (1 ≤ t.ev ∧ t.ev ≤ 20) := fun t ht => by
    have h1 := hset
    unfold setB at h1
    simp at h1
    have hok := h1.2 t ht
    unfold Tk.ok validB at hok
    simp at hok
    omega
  have H := Lib.hid h
  have HL := Lib.hid h.len
  have HS := Lib.hid hset
  have HOK := Lib.hid hok
  have HV := Lib.hid hV
  have d0 : ¬ (u : Int) < 0 := by omega
  have d1 : ¬ (200 : Int) < (u : Int) := by omega
  have dd0 := decide_eq_false d0
  have dd1 := decide_eq_false d1
  clear h hset hok hV d0 d1
  go_enter Try.func15, Try.ntmps15
  go_wp2_with fail
  refine (iSetValid_any _ A n c ts H.out (by omega)).mono ?_
  rintro e w1 ⟨rfl, hb⟩
  rw [HS.out]
  have HB1 := Lib.hid hb
  clear hb
  go_wp2_with fail
  refine (iOrder_is _).mono ?_
  rintro e w2 ⟨og, rfl, hor, hge, hb⟩
  have HB2 := Lib.hid (show Below w.heap.size w w2 from bl_trans HB1.out hb)
  have HOR2 := Lib.hid hor
  clear hb hor hge
  go_wp2
  have HH3 : Hid (Hp (w2.alloc (.cells #[.slice none 0 0, (.func (.func 43) #[ordV og] #[])] 70)) (w2.heap.size + 1) w2.heap.size og [] (.slice none 0 0)) := Lib.hid ⟨Blk.new w2 70 _, OwnJ.nil_ _ _, Nat.lt_succ_self _, HOR2.out.alloc _, by have := HOR2.out.lt; omega, by have := HOR2.out.lt; omega⟩
  have HB3 := Lib.hid (show Below w.heap.size w (w2.alloc (.cells #[.slice none 0 0, (.func (.func 43) #[ordV og] #[])] 70)) from bl_alloc HB2.out _)
  have hbw : w.heap.size ≤ w2.heap.size := HB2.out.size
  have hs3 : w2.heap.size < (w2.alloc (.cells #[.slice none 0 0, (.func (.func 43) #[ordV og] #[])] 70)).heap.size := by simp
  clear HOR2 HB2 HB1
  generalize (w2.alloc (.cells #[.slice none 0 0, (.func (.func 43) #[ordV og] #[])] 70)) = w3 at *
  obtain ⟨hb, hhb⟩ : ∃ hb, w2.heap.size = hb := ⟨_, rfl⟩
  rw [hhb] at HH3 hbw hs3
  simp only [hhb]
  clear hhb
  go_loopw [29] (fun i wr => ∃ (k : Nat) (hs : List Jb) (v : Value), k ≤ n ∧ i = .int .i64 k ∧ Hid (Hp wr (hb + 1) hb og hs v) ∧ Hid (heapP hs) ∧ Hid (Nx ts hi k hs) ∧ Hid (∀ x ∈ hs, x.tm = 0) ∧ Hid (Below w.heap.size w wr)) (fun i _ => n - (intOf i).toNat)
  case atStart => exact ⟨0, [], _, Nat.zero_le _, rfl, HH3, Lib.hid (fun i x p _ hx => by simp at hx), Lib.hid (nx_nil _ _), Lib.hid (by simp), HB3⟩
  case round =>
    obtain ⟨k, hs, v, hk, rfl, HH, HP, HX, HZ, HB⟩ := hrel
    obtain ⟨w4, hw4⟩ : ∃ W, W = wr := ⟨_, rfl⟩
    subst hw4
    clear HH3 HB3
    have hl5 := nx_bound HX.out (by omega)
    have hbl : hb < w4.heap.size := HH.out.blk.lt
    by_cases hlt : k < n
    · have hlti : (k : Int) < (n : Int) := by omega
      obtain ⟨t, ht⟩ : ∃ t, ts[k]? = some t := ⟨ts[k]'(by rw [HL.out]; exact hlt), List.getElem?_eq_getElem _⟩
      obtain ⟨bt, ot, rfl, hbt, t0, t1, t2, t3, t4⟩ := (H.out.below HB.out).at_ k t ht
      have HT := Lib.hid ht
      clear ht
      obtain ⟨lo, hi', du, ev, cr⟩ := t
      dsimp only at t0 t1 t2 t3 t4
      have HB5 := Lib.hid (show Below w.heap.size w (w4.alloc (.cells #[.int .i64 lo, .int .i64 hi', .int .i64 du, .int .i64 ev, .bool cr] 31)) from bl_alloc HB.out _)
      have HH5 := Lib.hid (HH.out.below (w' := w4.alloc (.cells #[.int .i64 lo, .int .i64 hi', .int .i64 du, .int .i64 ev, .bool cr] 31)) (bl_alloc (Below.refl _ _) _))
      have BT5 := Lib.hid (Blk.new w4 31 #[.int .i64 lo, .int .i64 hi', .int .i64 du, .int .i64 ev, .bool cr])
      have cT := BT5.out.cell
      have hsz5 : w4.heap.size < (w4.alloc (.cells #[.int .i64 lo, .int .i64 hi', .int .i64 du, .int .i64 ev, .bool cr] 31)).heap.size := by simp
      obtain ⟨nd, hnd⟩ : ∃ nd, needOf hi ⟨lo, hi', du, ev, cr⟩ = nd := ⟨_, rfl⟩
      have HND := Lib.hid hnd
      have HC := Lib.hid (fun W : World => show Calls Try.prog 45 #[.agg #[.int .i64 lo, .int .i64 hi', .int .i64 du, .int .i64 ev, .bool cr], .bool hi] W fun e w' => e = .returned (.int .i64 nd) ∧ Below W.heap.size W w' from by rw [← hnd]; exact iNeedT_is W lo hi' du ev cr hi)
      clear hnd
      go_wp2_with fail
      refine (HC.out _).mono ?_
      rintro e w6 ⟨rfl, hb6⟩
      have HB6 := Lib.hid (bl_trans HB5.out hb6)
      have HH6 := Lib.hid (HH5.out.below hb6)
      have hs6 : hb + 1 ≤ w6.heap.size := by have := hb6.size; omega
      clear hb6 cT HH5 HB5 BT5
      go_wp2_with fail
      refine (iPush_is w6 (hb + 1) hb og hs v HH6.out hs6 HP.out (by omega) ⟨(k : Int), 0, nd⟩).mono ?_
      rintro e w7 ⟨rfl, g, cp, hs', hh7, hp7, hm7, hg7, hgr7⟩
      have HH7 := Lib.hid hh7
      have HP7 := Lib.hid hp7
      have HX7 := Lib.hid (nx_push (hs' := hs') HX.out HT.out (by rw [HND.out]; exact hm7))
      have HZ7 := Lib.hid (show ∀ x ∈ hs', x.tm = 0 from fun x hx => by
        rcases List.mem_append.1 (hm7.mem_iff.1 hx) with e | e
        · exact HZ.out x e
        · rw [List.mem_singleton.1 e])
      have HB7 := Lib.hid (hgr7.below HB6.out (by omega) hbw (fun x e => by have := (HH6.out.own.blockLt e).1; omega))
      clear hh7 hp7 hm7 hg7 hgr7
      go_wp2
      go_roundw
      case rel => exact ⟨k + 1, hs', _, by omega, by go_num, HH7, HP7, HX7, HZ7, HB7⟩
      case measure => simp [intOf]; omega
    · obtain rfl : k = n := by omega
      have HW := Lib.hid (wo_start (u := u) (by rw [HL.out]; exact HX.out) HZ.out)
      have HX := Lib.hid (show Nx ts hi ts.length hs by rw [HL.out]; exact HX.out)
      clear HZ
      go_wp2
      go_loopw [11] (fun s wr => ∃ (hs : List Jb) (v : Value) (out : List Jb), out.length ≤ 60 ∧ Hid (Hp wr (hb + 1) hb og hs v) ∧ Hid (heapP hs) ∧ Hid (Nx ts hi ts.length hs) ∧ Hid (Wo ts hi u hs out) ∧ Hid (OwnJ wr (hb + 1) s out) ∧ Hid (∀ x, s.ownBlock = some x → v.ownBlock ≠ some x) ∧ Hid (Below w.heap.size w wr)) (fun s _ => 61 - (lenOf s))
      case atStart => exact ⟨hs, v, [], Nat.zero_le _, HH, HP, HX, HW, Lib.hid (OwnJ.nil_ _ _), Lib.hid (fun x e => by cases e), HB⟩
      case round =>
        obtain ⟨hs, v, out, hol, HH, HP, HX, HW, HO, HA, HB⟩ := hrel
        obtain ⟨A2, c2, rfl⟩ := HO.out.form
        obtain ⟨w4, hw4⟩ : ∃ W, W = wr := ⟨_, rfl⟩
        subst hw4
        have hl5 := nx_bound HX.out (by have := HL.out; omega)
        have hbl : hb < w4.heap.size := HH.out.blk.lt
        have hsB : w.heap.size ≤ w4.heap.size := HB.out.size
        by_cases hm0 : hs.length = 0
        · obtain rfl := List.eq_nil_of_length_eq_zero hm0
          obtain ⟨A9, c9, rfl⟩ := HH.out.own.form
          have c0 := HH.out.blk.cell 0
          simp only [List.length_nil] at c0
          have HE := Lib.hid (wo_end HS.out hu HW.out (by simp))
          have hbV : b = true ∧ V = out := by
            have h1 := HV.out
            rw [← HE.out, if_pos hol] at h1
            injection h1 with h2 h3
            exact ⟨h2, h3⟩
          obtain ⟨rfl, rfl⟩ := hbV
          go_wp2
          go_ret2
          exact ⟨A2, c2, rfl, HO.out.less (by omega), HB.out⟩
        obtain ⟨m, hm⟩ : ∃ m, hs.length = m + 1 := ⟨hs.length - 1, by omega⟩
        obtain ⟨g, cap, rfl⟩ := HH.out.own.pos_form hm
        obtain ⟨j, hj⟩ : ∃ j, hs[0]? = some j := ⟨hs[0]'(by omega), List.getElem?_eq_getElem _⟩
        have hjm : j ∈ hs := List.mem_of_getElem? hj
        have HMIN := Lib.hid (heap_min HP.out hj)
        obtain ⟨i, t, hil, ht, hta, h0, h1, hd, hne⟩ := HX.out.is_ j hjm
        have HT := Lib.hid ht
        have hev := HOK.out t (List.mem_of_getElem? ht)
        obtain ⟨hgB, hgl⟩ := HH.out.own.blockLt (k := g) rfl
        have c0 := HH.out.blk.cell 0
        have m0 : (0 : Int) < (m : Int) + 1 := by omega
        have HM := Lib.hid hm
        have HJ := Lib.hid hj
        have HJM := Lib.hid hjm
        obtain ⟨ta, tm, ne⟩ := j
        dsimp only at hta h0 h1
        subst hta
        clear hm hj hjm ht hd hne hm0
        go_wp2_with fail
        refine (iPop_is w4 (hb + 1) hb og hs g cap m HM.out HH.out HP.out (by have := HM.out; omega) ⟨(i : Int), tm, ne⟩ HJ.out).mono ?_
        rintro e w5 ⟨rfl, hs1, hh5, hp5, hm5, hg5⟩
        have HH5 := Lib.hid hh5
        have HP5 := Lib.hid hp5
        have HM5 := Lib.hid hm5
        have HB5 := Lib.hid (hg5.below HB.out hsB hbw (fun x e => by injection e with e; omega))
        have HO5 := Lib.hid (HO.out.gr2 hg5 (by omega) (fun x e => HA.out x e))
        have hs5 : w4.heap.size ≤ w5.heap.size := hg5.size
        have hl1 : hs1.length + 1 = hs.length := by have := hm5.length_eq; simpa using this
        clear hh5 hp5 hm5 hg5 c0
        unfold Jb.val
        dsimp only
        have BJ6 := Lib.hid (Blk.new w5 38 #[.int .i64 (i : Int), .int .i64 tm, .int .i64 ne])
        have HB6 := Lib.hid (show Below w.heap.size w (w5.alloc (.cells #[.int .i64 (i : Int), .int .i64 tm, .int .i64 ne] 38)) from bl_alloc HB5.out _)
        have HH6 := Lib.hid (HH5.out.below (w' := w5.alloc (.cells #[.int .i64 (i : Int), .int .i64 tm, .int .i64 ne] 38)) (bl_alloc (Below.refl _ _) _))
        have HO6 := Lib.hid (HO5.out.alloc (.cells #[.int .i64 (i : Int), .int .i64 tm, .int .i64 ne] 38))
        have hs6 : (w5.alloc (.cells #[.int .i64 (i : Int), .int .i64 tm, .int .i64 ne] 38)).heap.size = w5.heap.size + 1 := by simp
        have q0 := BJ6.out.cell 0
        have q1 := BJ6.out.cell 1
        have q2 := BJ6.out.cell 2
        by_cases hlate : (u : Int) ≤ tm
        · have HE := Lib.hid (wo_end HS.out hu HW.out (wo_min HMIN.out hlate))
          have hbV : b = true ∧ V = out := by
            have h1 := HV.out
            rw [← HE.out, if_pos hol] at h1
            injection h1 with h2 h3
            exact ⟨h2, h3⟩
          obtain ⟨rfl, rfl⟩ := hbV
          go_wp2
          go_ret2
          exact ⟨A2, c2, rfl, HO6.out.less (by omega), HB6.out⟩
        have hlt : tm < (u : Int) := by omega
        by_cases h60 : out.length = 60
        · have HF := Lib.hid (wo_full HX.out HW.out HJM.out hlt)
          have hbV : b = false ∧ V = [] := by
            have h1 := HV.out
            rw [if_neg (by have := HF.out; omega)] at h1
            injection h1 with h2 h3
            exact ⟨h2, h3⟩
          obtain ⟨rfl, rfl⟩ := hbV
          have e60 : ((out.length : Int) == 60) = true := by simp; omega
          clear h60
          go_wp2
          go_ret2
          exact ⟨none, 0, rfl, OwnJ.nil_ _ _, HB6.out⟩
        have e60 : ((out.length : Int) == 60) = false := by simp; omega
        have hin : (i : Int) < (k : Int) := by have := HL.out; omega
        have hi0' : (0 : Int) ≤ (i : Int) := by omega
        have kw : IntKind.i64.wrap (tm + t.ev) = tm + t.ev := IntWalk.i64_in _ (by omega)
        have HOF := Lib.hid (show ∀ x, (Value.slice A2 out.length c2).ownBlock = some x → hb + 1 ≤ x ∧ x < w5.heap.size from fun x e => HO5.out.blockLt e)
        have hgl5 : g < w5.heap.size := by omega
        go_wp2_with (at_builtin; refine wpList_append_lies _ rfl (.tmp 53) (.tmp 55) 26 rfl (hb + 1) 38 i0 _ 3 24 Try.underlying26 hi0 hz0 hz1 hz2 rfl (by decide) (.slice A2 out.length c2) out.length (out.flatMap Jb.cells) rfl (HO6.out.alloc _) ⟨w5.heap.size + 1, 0, none⟩ 1 1 (Jb.cells ⟨(i : Int), tm, ne⟩) rfl rfl (by intro j u hu; have h0 := cell_new3 (w5.alloc (.cells #[.int .i64 (i : Int), .int .i64 tm, .int .i64 ne] 38)) ⟨(i : Int), tm, ne⟩ 38 j u hu; simpa using h0) (by intro u hu; exact jcells_one [⟨(i : Int), tm, ne⟩] u (by simpa using hu)) (by omega) (by unfold maxLen; omega) (by omega) (by simp; omega) (w5.heap.size + 1 + 1) (by simp) ?_; intro g2 cap2 w8 hown8 hgrow8 hat8 hlt8; have HO8 := Lib.hid hown8; have HG8 := Lib.hid hgrow8; have HAT8 := Lib.hid hat8; clear hown8 hgrow8 hat8 q0 q1 q2)
        have hown2 : (Value.slice A2 out.length c2).ownBlock ≠ some hb := fun e => by have := (HOF.out hb e).1; omega
        have hown3 : (Value.slice A2 out.length c2).ownBlock ≠ some g := fun e => HA.out g e rfl
        have hown4 : (Value.slice A2 out.length c2).ownBlock ≠ some og := fun e => by have h1 := (HOF.out og e).1; have h2 := HH5.out.ogB; omega
        have hown5 : (Value.slice A2 out.length c2).ownBlock ≠ some w5.heap.size := fun e => by have := (HOF.out w5.heap.size e).2; omega
        have HHa : Hid (Hp ((w5.alloc (.cells #[.int .i64 (i : Int), .int .i64 tm, .int .i64 ne] 38)).alloc (.cells #[.int .i64 (i : Int), .int .i64 tm, .int .i64 ne] 38)) (hb + 1) hb og hs1 (.slice (some ⟨g, 0, none⟩) hs1.length cap)) := Lib.hid (HH6.out.below (bl_alloc (Below.refl _ _) _))
        have HH8 : Hid (Hp w8 (hb + 1) hb og hs1 (.slice (some ⟨g, 0, none⟩) hs1.length cap)) := Lib.hid (HHa.out.grown HG8.out (fun e => hown2 e.symm) (fun e => hown4 e.symm) (fun e => hown3 e.symm))
        have BJ8 : Hid (Blk w8 w5.heap.size 38 #[.int .i64 (i : Int), .int .i64 tm, .int .i64 ne]) := Lib.hid ((BJ6.out.alloc _).grown HG8.out (fun e => hown5 e.symm))
        have HB8 := Lib.hid (show Below w.heap.size w w8 from (bl_alloc HB6.out _).grown HG8.out (by simp; omega) (fun x e => by have := (HOF.out x e).1; omega))
        have HOut8 : Hid (OwnJ w8 (hb + 1) (.slice (some ⟨g2, 0, none⟩) (out.length + 1) cap2) (out ++ [⟨(i : Int), tm, ne⟩])) := Lib.hid (OwnJ.snoc HO8.out)
        have hg2 : g2 ≠ g ∧ g2 ≠ w5.heap.size := by
          rcases HAT8.out with e | e
          · exact ⟨fun e2 => hown3 (by rw [e, e2]), fun e2 => hown5 (by rw [e, e2])⟩
          · omega
        have hg2B : hb + 1 ≤ g2 := (HOut8.out.blockLt (k := g2) rfl).1
        have hs8 : w5.heap.size < w8.heap.size := BJ8.out.lt
        have HG2 := Lib.hid hg2
        clear hown2 hown3 hown4 hown5 HHa HO8 HG8 BJ6 HB6 HH6 HO6 hs6 hg2
        obtain ⟨bt, ot, rfl, hbt, _, _, _, t3, _⟩ := (H.out.below HB8.out).at_ i t HT.out
        obtain ⟨lo, hi', du, ev, cr⟩ := t
        dsimp only at t3 hev kw
        have q0 := BJ8.out.cell 0
        have q1 := BJ8.out.cell 1
        have q2 := BJ8.out.cell 2
        have qf := BJ8.out.frozen 1
        have BJ9 : Hid (Blk ((w8.setCell ⟨w5.heap.size, 1, none⟩ (.int .i64 (tm + ev))).drew) w5.heap.size 38 #[.int .i64 (i : Int), .int .i64 (tm + ev), .int .i64 ne]) := Lib.hid (BJ8.out.set_ 1 (.int .i64 (tm + ev)))
        have HH9 : Hid (Hp ((w8.setCell ⟨w5.heap.size, 1, none⟩ (.int .i64 (tm + ev))).drew) (hb + 1) hb og hs1 (.slice (some ⟨g, 0, none⟩) hs1.length cap)) := Lib.hid (Hp.below (HH8.out.setApart (by dsimp only; omega) (by dsimp only; have h2 := HH8.out.ogB; omega) (by dsimp only; omega) _) (Below.drew (Below.refl _ _)))
        have HB9 : Hid (Below w.heap.size w ((w8.setCell ⟨w5.heap.size, 1, none⟩ (.int .i64 (tm + ev))).drew)) := Lib.hid (Below.drew (bl_set HB8.out (by dsimp only; omega) _))
        have HOut9 : Hid (OwnJ ((w8.setCell ⟨w5.heap.size, 1, none⟩ (.int .i64 (tm + ev))).drew) (hb + 1) (.slice (some ⟨g2, 0, none⟩) (out.length + 1) cap2) (out ++ [⟨(i : Int), tm, ne⟩])) := Lib.hid (OwnJ.drew (HOut8.out.setApart (by dsimp only; exact HG2.out.2) _))
        have hs9 : hb + 1 ≤ ((w8.setCell ⟨w5.heap.size, 1, none⟩ (.int .i64 (tm + ev))).drew).heap.size := by simp [World.setCell]; omega
        go_region
        all_goals
          generalize ((w8.setCell ⟨w5.heap.size, 1, none⟩ (.int .i64 (tm + ev))).drew) = w9 at *
          clear q0 q1 q2 qf t3
          have q0 := BJ9.out.cell 0
          have q1 := BJ9.out.cell 1
          have q2 := BJ9.out.cell 2
          have hg9 : g2 < w9.heap.size := (HOut9.out.blockLt (k := g2) rfl).2
          go_wp2_with fail
          refine (iPush_is w9 (hb + 1) hb og hs1 (.slice (some ⟨g, 0, none⟩) hs1.length cap) HH9.out hs9 HP5.out (by omega) ⟨(i : Int), tm + ev, ne⟩).mono ?_
          rintro e w10 ⟨rfl, g3, c3, hs2, hh, hp, hm, hat, hgr⟩
          have HH10 := Lib.hid hh
          have HP10 := Lib.hid hp
          have HST := Lib.hid (wo_step hu HOK.out HX.out HW.out HM5.out HMIN.out HT.out rfl hlt hm)
          have HB10 := Lib.hid (hgr.below HB9.out HB9.out.size hbw (fun x e => by have e2 : some g = some x := e; injection e2 with e2; omega))
          have HO10 := Lib.hid (HOut9.out.gr2 hgr (by omega) (fun x e => by
            have e2 : some g2 = some x := e
            injection e2 with e2
            intro e3
            have e4 : some g = some x := e3
            injection e4 with e4
            exact HG2.out.1 (by omega)))
          have HA10 : Hid (∀ x, (Value.slice (some ⟨g2, 0, none⟩) (out.length + 1) cap2).ownBlock = some x → (Value.slice (some ⟨g3, 0, none⟩) hs2.length c3).ownBlock ≠ some x) := Lib.hid (fun x e e3 => by
            have e2 : some g2 = some x := e
            injection e2 with e2
            have e4 : some g3 = some x := e3
            injection e4 with e4
            rcases hat with e5 | e5
            · have e6 : some g = some g3 := e5
              injection e6 with e6
              exact HG2.out.1 (by omega)
            · omega)
          clear hh hp hm hat hgr q0 q1 q2
          go_wp2
          go_roundw
          case rel => exact ⟨hs2, _, out ++ [⟨(i : Int), tm, ne⟩], by simp; omega, HH10, HP10, Lib.hid HST.out.1, Lib.hid HST.out.2, HO10, HA10, HB10⟩
          case measure => simp [lenOf]; omega

theorem iWorst_is (w : World) (A : Option Addr) (n c : Nat) (ts : List Tk) (h : Tks w w.heap.size A n ts) (hn : n ≤ 1048576) (u : Int) (hi b : Bool) (hb : worstB ts u hi = b) :
    Calls Try.prog 15 #[.slice A n c, .int .i64 u, .bool hi] w (JsRes2 (worstV ts u hi) b w) := by
  cases hno : setB ts && (decide (0 ≤ u) && decide (u ≤ 200))
  · have h1 : worstB ts u hi = false := by
      unfold worstB
      rw [← Bool.and_assoc (decide (0 ≤ u)), ← Bool.and_assoc (setB ts), hno, Bool.false_and]
    have h2 : worstV ts u hi = [] := by unfold worstV; rw [h1]; rfl
    obtain rfl : false = b := by rw [← hb, h1]
    rw [h2]
    exact iWorst_no w A n c ts h hn u hi hno
  · rw [Bool.and_eq_true, Bool.and_eq_true, decide_eq_true_iff, decide_eq_true_iff] at hno
    obtain ⟨hs, h0, h1⟩ := hno
    obtain ⟨k, rfl⟩ : ∃ k : Nat, u = (k : Int) := ⟨u.toNat, by omega⟩
    refine iWorst_yes w A n c ts h k (by omega) hi hs b _ ?_
    have h3 : worstB ts (k : Int) hi = decide ((worstL hi ts k).length ≤ 60) := by
      unfold worstB
      rw [hs, decide_eq_true h0, decide_eq_true h1, Int.toNat_natCast]
      rfl
    unfold worstV
    rw [Int.toNat_natCast, ← hb, h3]
    by_cases h4 : (worstL hi ts k).length ≤ 60
    · rw [decide_eq_true h4, if_pos h4]; rfl
    · rw [decide_eq_false h4, if_neg h4]; rfl
end

end Go.Proofs.Ytflilandcjnpjaa
