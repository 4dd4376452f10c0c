/- Contract of slices.Insert at a list of tasks with room for one more: the task comes at its place, the row stays where it is. -/
import Derived.Test.YtbaecbibkmdbiaaDoorList
import Derived.Laws.CopyRow
import Derived.Laws.Externs
import Derived.Lib.Overlaps
import Derived.Deep.RegionLaw
namespace Go.Proofs.YtbaecbibkmdbiaaDoor
open Go.RowKit

/-- copy at elements of k cells, into a row that is known whole. -/
theorem run_copy_k {P : Program} (w : World) (dT sT ty elem : TypeId) (k g o dLen dCap : Nat) (a : Addr) (sLen sCap m : Nat) (cur : Array Value) (t : TypeId) (cs : List Value)
    (hu : P.underlying dT = some (.slice elem)) (hs : (P.info? elem).map (·.size) = some k)
    (hg : w.heap[g]? = some (.cells cur t (0, 0))) (hm : m = Nat.min sLen dLen) (hn : cs.length = m * k)
    (hsrc : ∀ j v, cs[j]? = some v → w.cell? (a.add j) = some v) (hfit : o + cs.length ≤ cur.size) (h1 : ∀ v ∈ cs, v.oneCell' = true) :
    (Builtin.copy_ #[dT, sT] ty #[.slice (some ⟨g, o, none⟩) dLen dCap, .slice (some a) sLen sCap]).run P w =
      .ok (goInt m) (w.setRow g (cur.toList.take o ++ cs ++ cur.toList.drop (o + cs.length)).toArray) := by
  have hl := run_loadCells_list (P := P) w a cs hsrc
  have hst := run_storeCells_at P g o t cs 0 cur w hg (by simpa using hfit) h1
  cases hq : P.info? elem with
  | none => simp [hq] at hs
  | some i =>
    have hi : i.size = k := by simpa [hq] using hs
    rw [hn] at hl
    simp [Builtin.copy_, run_underlying hu, Builtin.lenOf, Builtin.firstCells, sizeOf, typeInfo, hq, hi, ← hm, hl, hst]

theorem wpList_copy_run {P : Program} (w : World) {ops : Array Oper} {rest : List Oper} {o : Oper} {a : Act} {Q : Exit → Act → World → Prop} (hgd : o.guard = none) (d s : Operand) (t t' : TypeId)
    (ho : o.op = .call { callee := .builtin .copy, args := #[d, s], argTypes := #[t, t'] }) (v u : Value) (hd : a.eval d = v) (hs : a.eval s = u) {v' : Value} {w' : World}
    (hr : (Builtin.copy_ #[t, t'] o.type #[v, u]).run P w = .ok v' w') (h : wpList P ops Q rest (a.put o.dst v') w') : wpList P ops Q (o :: rest) a w :=
  wpList_plain hgd fun _ hK => by
    unfold Oper.wp execOp
    simp only [ho, resolve, invoke, builtin, Sem.run_bind, Sem.run_pure, Result.andThen_ok, List.map_toArray, List.map_cons, List.map_nil, hd, hs, hr]
    exact hK _ _ h

theorem step_copy_run {P : Program} {ops : Array Oper} {o : Oper} {a : Act} {w : World} {K : Act → World → Prop} {Q : Exit → Act → World → Prop} {E : Prop}
    (hg : o.guard = none) (d x : Operand) (dT sT : TypeId) (hop : o.op = Op.call { callee := Callee.builtin Builtin.copy, args := #[d, x], argTypes := #[dT, sT] })
    (v u : Value) (hd : a.eval d = v) (hx : a.eval x = u) {v' : Value} {w' : World} (hr : (Builtin.copy_ #[dT, sT] o.type #[v, u]).run P w = .ok v' w') (hK : K (a.put o.dst v') w') :
    if Region.wanted o (yielded ops a.tmps) = true then Oper.wp P o a w K Q else E := by
  have hw : Region.wanted o (yielded ops a.tmps) = true := by simp [Region.wanted, hg]
  rw [if_pos hw]
  unfold Oper.wp
  simp [execOp, hop, resolve, invoke, builtin, hd, hx, hr, Result.andThen]
  exact hK

def InsRes (g N B : Nat) (us : List Tk) (w : World) (e : Ending) (w' : World) : Prop :=
  e = .returned (.slice (some ⟨g, 0, none⟩) us.length N) ∧ Own w' B (.slice (some ⟨g, 0, none⟩) us.length N) us ∧ w.grownBy w' (some g)

theorem own_block {w : World} {B g n N : Nat} {ts : List Tk} (h : Own w B (.slice (some ⟨g, 0, none⟩) n N) ts) :
    n = ts.length ∧ B ≤ g ∧ ∃ cur, w.heap[g]? = some (.cells cur 40 (0, 0)) ∧ n ≤ N ∧ N ≤ maxLen ∧ cur.size = N * 5 ∧ cur.toList.take (n * 5) = ts.flatMap Tk.cells := by
  have hn := h.reads.1
  rcases h.2 with ⟨e, h0⟩ | ⟨g', cap, cur, e, hb, hg, h1, h2, h3, h4⟩
  · cases e
  · injection e with e1 e2 e3
    injection e1 with e1
    injection e1 with e1
    subst e1 e3
    exact ⟨hn, hb, cur, hg, by omega, h2, h3, by rw [hn]; exact h4⟩

theorem own_of_block {w : World} {B g N : Nat} {ts : List Tk} {cur : Array Value} (hb : B ≤ g) (hg : w.heap[g]? = some (.cells cur 40 (0, 0))) (hn : ts.length ≤ N) (hN : N ≤ maxLen) (hs : cur.size = N * 5)
    (ht : cur.toList.take (ts.length * 5) = ts.flatMap Tk.cells) : Own w B (.slice (some ⟨g, 0, none⟩) ts.length N) ts :=
  ⟨cells_length ts, .inr ⟨g, N, cur, rfl, hb, hg, hn, hN, hs, ht⟩⟩

theorem gb_setRow (w : World) (g : Nat) (cs : Array Value) : w.grownBy (w.setRow g cs) (some g) :=
  ⟨rfl, rfl, rfl, by simp, fun k _ hne => setRow_other w g k cs (fun e => hne (by rw [e]))⟩

theorem drop_cells (ts : List Tk) : ∀ i, (ts.flatMap Tk.cells).drop (i * 5) = (ts.drop i).flatMap Tk.cells := by
  induction ts with
  | nil => intro i; simp
  | cons t ts ih =>
    intro i
    cases i with
    | zero => simp
    | succ i =>
      have e : (i + 1) * 5 = t.cells.length + i * 5 := by simp [Tk.cells]; omega
      rw [List.flatMap_cons, e, List.drop_append, List.drop_succ_cons]
      simp [ih]
theorem take_cells (ts : List Tk) : ∀ i, (ts.flatMap Tk.cells).take (i * 5) = (ts.take i).flatMap Tk.cells := by
  induction ts with
  | nil => intro i; simp
  | cons t ts ih =>
    intro i
    cases i with
    | zero => simp
    | succ i =>
      have e : (i + 1) * 5 = t.cells.length + i * 5 := by simp [Tk.cells]; omega
      rw [List.flatMap_cons, e, List.take_append, List.take_succ_cons]
      simp [ih]
      exact List.take_of_length_le (by omega)

/-- The row behind the two copies. -/
theorem ins_row {L X Y : List Value} {a b n : Nat} (hX : L.take n = X) (hn : n ≤ L.length) (ha : a ≤ n) (hY : Y.length = b) (hfit : n + b ≤ L.length) :
    ((((L.take (a + b) ++ X.drop a ++ L.drop (a + b + (X.drop a).length)).take a) ++ Y ++ ((L.take (a + b) ++ X.drop a ++ L.drop (a + b + (X.drop a).length)).drop (a + Y.length))).take (n + b)) = X.take a ++ Y ++ X.drop a := by
  have hXl : X.length = n := by rw [← hX, List.length_take]; omega
  have hdl : (X.drop a).length = n - a := by rw [List.length_drop, hXl]
  have e1 : (L.take (a + b) ++ X.drop a ++ L.drop (a + b + (X.drop a).length)).take a = X.take a := by
    rw [List.append_assoc, List.take_append_of_le_length (by rw [List.length_take]; omega), List.take_take, ← hX, List.take_take]
    congr 1
    omega
  have e2 : (L.take (a + b) ++ X.drop a ++ L.drop (a + b + (X.drop a).length)).drop (a + Y.length) = X.drop a ++ L.drop (a + b + (X.drop a).length) := by
    rw [hY, List.append_assoc, List.drop_append_of_le_length (by rw [List.length_take]; omega), List.drop_eq_nil_of_le (by rw [List.length_take]; omega), List.nil_append]
  rw [e1, e2, ← List.append_assoc, List.take_append_of_le_length (by simp only [List.length_append, List.length_take, hdl, hXl]; omega), List.take_of_length_le (by simp only [List.length_append, List.length_take, hdl, hXl]; omega)]

theorem info_size : (Tryd.prog.info? 40).map (·.size) = some 5 := by kernel_rfl
theorem sizeOf_task (w : World) : (Go.sizeOf 40).run Tryd.prog w = .ok 5 w := by
  obtain ⟨i0, hi, hz0, hz1, hz2⟩ := info_parts info_task
  simp [Go.sizeOf, typeInfo, hi, hz1]

theorem overlaps_no (w : World) (vb g o la ca lb cb : Nat) (cv cg : Array Value) (hv : Blk w vb 40 cv) (hg : Blk w g 40 cg) (hne : vb ≠ g) (hcg : cg.size ≠ 0) :
    (callFunc 60 #[.slice (some ⟨vb, 0, none⟩) la ca, .slice (some ⟨g, o, none⟩) lb cb]).run Tryd.prog w = .ok (.value (.bool false)) w := by
  have hsv : w.shape? vb = some (40, cv.size) := by unfold Blk at hv; simp [World.shape?, hv]
  have hsg : w.shape? g = some (40, cg.size) := by unfold Blk at hg; simp [World.shape?, hg]
  rw [run_callFunc_extern Tryd.func60 (by kernel_rfl) (by kernel_rfl) (by kernel_rfl) (e := Extern.SlicesOverlaps.overlaps #[23, 23] #[4]) (by kernel_rfl),
    Lib.run_overlaps_apart w 23 4 40 Tryd.underlying23 5 sizeOf_task ⟨vb, 0, none⟩ ⟨g, o, none⟩ la ca lb cb hne 40 40 cv.size cg.size hsv hsg hcg (hv.frozen 0) (hv.frozen _)]
  rfl

theorem own_row {w : World} {B n : Nat} {v : Value} {ts : List Tk} (h : Own w B v ts) (hn : n = ts.length) : w.ownsRow B 40 5 v n (ts.flatMap Tk.cells) := by subst hn; exact h

set_option maxHeartbeats 2000000 in
theorem insert_end (w : World) (B g n N vb : Nat) (ts : List Tk) (t : Tk) (h : Own w B (.slice (some ⟨g, 0, none⟩) n N) ts) (hN : n + 1 ≤ N)
    (hv : Blk w vb 40 #[.int .i64 t.lo, .int .i64 t.hi, .int .i64 t.du, .int .i64 t.ev, .bool t.cr]) (hn5 : N ≤ 1048576) :
    Calls Tryd.prog 57 #[.slice (some ⟨g, 0, none⟩) n N, .int .i64 n, .slice (some ⟨vb, 0, none⟩) 1 1] w (InsRes g N B (ts ++ [t]) w) := by
  obtain ⟨i0, hi0, hz0, hz1, hz2⟩ := info_parts info_task
  obtain ⟨hnl, hBg, cur, hcur, _, hNm, hcs, htk⟩ := own_block h
  have hvcells : ∀ j u, t.cells[j]? = some u → w.cell? ((⟨vb, 0, none⟩ : Addr).add j) = some u := by
    intro j u hj
    have ea : (⟨vb, 0, none⟩ : Addr).add j = ⟨vb, j, none⟩ := by unfold Addr.add; split <;> simp_all
    rw [ea, hv.cell j, ← hj]
    simp [Tk.cells]
  have HX := Lib.hid (own_row h hnl)
  have HV := Lib.hid hvcells
  have HL := Lib.hid hnl
  clear h hvcells hcur htk hcs hv hnl
  go_enter Tryd.func57, Tryd.ntmps57
  go_wp2_with (at_builtin; refine wpList_append_fits _ rfl (.tmp 23) (.tmp 24) 23 rfl B 40 i0 5 Tryd.underlying23 hi0 hz1 g n N (ts.flatMap Tk.cells) rfl HX.out ⟨vb, 0, none⟩ 1 1 t.cells rfl rfl HV.out (by intro u hu; exact cells_one [t] u (by simpa using hu)) hN ?_; intro w2 hown2 hgrow2)
  have HO2 : Hid (Own w2 B (.slice (some ⟨g, 0, none⟩) (n + 1) N) (ts ++ [t])) := Own.snoc (by rw [← HL.out]; exact hown2)
  have HG := Lib.hid hgrow2
  clear hown2 hgrow2
  go_wp2
  go_ret
  refine ⟨?_, ?_, HG.out⟩
  · simp [HL.out]
  · have h := HO2.out
    rw [HL.out] at h
    simpa using h

set_option maxHeartbeats 2000000 in
theorem insert_shift (w : World) (B g n N i vb : Nat) (ts : List Tk) (t : Tk) (h : Own w B (.slice (some ⟨g, 0, none⟩) n N) ts) (hN : n + 1 ≤ N) (hi : i < n) (hne : vb ≠ g)
    (hv : Blk w vb 40 #[.int .i64 t.lo, .int .i64 t.hi, .int .i64 t.du, .int .i64 t.ev, .bool t.cr]) (hn5 : N ≤ 1048576) :
    Calls Tryd.prog 57 #[.slice (some ⟨g, 0, none⟩) n N, .int .i64 i, .slice (some ⟨vb, 0, none⟩) 1 1] w (InsRes g N B (ts.take i ++ t :: ts.drop i) w) := by
  obtain ⟨hnl, hBg, cur, hcur, _, hNm, hcs, htk⟩ := own_block h
  have hcl : (ts.flatMap Tk.cells).length = n * 5 := by rw [cells_length, hnl]
  have hdl : ((ts.flatMap Tk.cells).drop (i * 5)).length = (n - i) * 5 := by rw [List.length_drop, hcl]; omega
  -- the first copy
  obtain ⟨R1, hR1⟩ : ∃ R1 : List Value, R1 = cur.toList.take (i * 5 + 5) ++ (ts.flatMap Tk.cells).drop (i * 5) ++ cur.toList.drop (i * 5 + 5 + ((ts.flatMap Tk.cells).drop (i * 5)).length) := ⟨_, rfl⟩
  have hcell : ∀ j u, (ts.flatMap Tk.cells)[j]? = some u → w.cell? ⟨g, j, none⟩ = some u := by
    intro j u hu
    have hj : j < n * 5 := by have := (List.getElem?_eq_some_iff.1 hu).1; omega
    rw [cell_of_row w g j cur _ _ hcur, ← hu, ← htk, List.getElem?_take, if_pos hj]
    simp
  have hcp1 : ∀ (ty : TypeId) (o1 o2 l1 l2 c1 c2 : Nat), o1 = i * 5 + 5 → o2 = i * 5 → l1 = n - i → l2 = n + 1 - i →
      (Builtin.copy_ #[23, 23] ty #[.slice (some ⟨g, o1, none⟩) l1 c1, .slice (some ⟨g, o2, none⟩) l2 c2]).run Tryd.prog w.drew = .ok (goInt (n - i : Nat)) (w.drew.setRow g R1.toArray) := by
    intro ty o1 o2 l1 l2 c1 c2 e1 e2 e3 e4
    subst e1 e2 e3 e4
    rw [hR1]
    exact run_copy_k w.drew _ _ ty 40 5 g (i * 5 + 5) (n - i) c1 ⟨g, i * 5, none⟩ (n + 1 - i) c2 (n - i) cur 40 ((ts.flatMap Tk.cells).drop (i * 5)) Tryd.underlying23 info_size hcur (by simp only [Nat.min_def]; split <;> omega) hdl
      (fun j u hj => by
        have ea : (⟨g, i * 5, none⟩ : Addr).add j = ⟨g, i * 5 + j, none⟩ := by unfold Addr.add; split <;> simp_all
        rw [ea]
        exact hcell (i * 5 + j) u (by rwa [List.getElem?_drop] at hj)) (by rw [hdl, hcs]; omega) (fun u hu => cells_one ts u (List.mem_of_mem_drop hu))
  have hR1l : R1.length = N * 5 := by rw [hR1]; simp only [List.length_append, List.length_take, List.length_drop, hdl, Array.length_toList, hcs]; omega
  -- the second copy
  obtain ⟨R2, hR2⟩ : ∃ R2 : List Value, R2 = R1.take (i * 5) ++ t.cells ++ R1.drop (i * 5 + t.cells.length) := ⟨_, rfl⟩
  have hcur2 : (w.drew.setRow g R1.toArray).heap[g]? = some (.cells R1.toArray 40 (0, 0)) := setRow_heap w.drew g cur _ _ _ hcur
  have hvcells : ∀ j u, t.cells[j]? = some u → (w.drew.setRow g R1.toArray).cell? ((⟨vb, 0, none⟩ : Addr).add j) = some u := by
    intro j u hj
    have ea : (⟨vb, 0, none⟩ : Addr).add j = ⟨vb, j, none⟩ := by unfold Addr.add; split <;> simp_all
    have hv2 : Blk (w.drew.setRow g R1.toArray) vb 40 _ := Blk.grown hv ⟨rfl, rfl, rfl, by simp, fun k _ hk => setRow_other w.drew g k _ (fun e => hk (by rw [e]))⟩ (by intro e; injection e with e; exact hne e)
    rw [ea, hv2.cell j, ← hj]
    simp [Tk.cells]
  have hcp2 : ∀ (ty : TypeId) (o1 l1 c1 : Nat), o1 = i * 5 → l1 = n + 1 - i →
      (Builtin.copy_ #[23, 23] ty #[.slice (some ⟨g, o1, none⟩) l1 c1, .slice (some ⟨vb, 0, none⟩) 1 1]).run Tryd.prog (w.drew.setRow g R1.toArray) = .ok (goInt (1 : Nat)) ((w.drew.setRow g R1.toArray).setRow g R2.toArray) := by
    intro ty o1 l1 c1 e1 e2
    subst e1 e2
    rw [hR2]
    have hx := run_copy_k (w.drew.setRow g R1.toArray) 23 23 ty 40 5 g (i * 5) (n + 1 - i) c1 ⟨vb, 0, none⟩ 1 1 1 R1.toArray 40 t.cells Tryd.underlying23 info_size hcur2 (by simp only [Nat.min_def]; split <;> omega) rfl hvcells
      (by simp only [List.size_toArray, hR1l]; simp [Tk.cells]; omega) (fun u hu => cells_one [t] u (by simpa using hu))
    simpa using hx
  have hov := fun (o lb cb : Nat) => overlaps_no w vb g o 1 1 lb cb _ cur hv hcur hne (by rw [hcs]; omega)
  have hfin : R2.take ((n + 1) * 5) = (ts.take i ++ t :: ts.drop i).flatMap Tk.cells := by
    have hx := ins_row (L := cur.toList) (X := ts.flatMap Tk.cells) (Y := t.cells) (a := i * 5) (b := 5) (n := n * 5) htk (by rw [Array.length_toList, hcs]; omega) (by omega) rfl (by rw [Array.length_toList, hcs]; omega)
    rw [← hR1, ← hR2] at hx
    rw [show (n + 1) * 5 = n * 5 + 5 by omega, hx, List.flatMap_append, List.flatMap_cons, take_cells, drop_cells, List.append_assoc]
  have hlen : (ts.take i ++ t :: ts.drop i).length = n + 1 := by simp; omega
  have hR2l : R2.length = N * 5 := by rw [hR2]; simp only [List.length_append, List.length_take, List.length_drop, hR1l]; simp [Tk.cells]; omega
  have HF : Hid (InsRes g N B (ts.take i ++ t :: ts.drop i) w (.returned (.slice (some ⟨g, 0, none⟩) (n + 1) N)) ((w.drew.setRow g R1.toArray).setRow g R2.toArray)) := by
    refine ⟨by rw [hlen], ?_, ?_⟩
    · exact own_of_block (cur := R2.toArray) hBg (setRow_heap _ g _ _ _ _ hcur2) (by rw [hlen]; exact hN) hNm (by simpa using hR2l) (by rw [hlen]; exact hfin)
    · exact gb_trans (a := w) (b := w.drew.setRow g R1.toArray) ⟨rfl, rfl, rfl, by simp, fun k _ hk => setRow_other w.drew g k _ (fun e => hk (by rw [e]))⟩ (gb_setRow _ g _) (fun x e => .inl (by injection e with e; exact e.symm))
  have HC1 := Lib.hid hcp1
  have HC2 := Lib.hid hcp2
  have HOV := Lib.hid hov
  obtain ⟨W1, hW1⟩ : ∃ W1, W1 = w.drew.setRow g R1.toArray := ⟨_, rfl⟩
  rw [← hW1] at HC1 HC2 HF
  unfold maxLen at hNm
  clear hcp1 hcp2 hov hfin hlen hR2l hR1l hR1 hR2 hcur2 hvcells hcell hdl hcl htk hcs hcur hnl hv h hW1
  have hw1 : IntKind.i64.wrap ((i : Int) + 1) = (i : Int) + 1 := by rw [IntKind.wrap_i64]; omega
  have hi0 : (0 : Int) ≤ (i : Int) + 1 := by omega
  have htn : ((i : Int) + 1).toNat = i + 1 := by omega
  have hb2 : ¬ (N = i + 1) := by omega
  have hb4 : ¬ (N = i) := by omega
  have hne1 : ((i : Int) == (n : Int)) = false := by simp; omega
  have hb3 : (i : Int) ≤ (n : Int) + 1 := by omega
  have hin : i ≤ n := by omega
  have hin2 : i ≤ n + 1 := by omega
  have hov := HOV.out
  go_enter Tryd.func57, Tryd.ntmps57
  go_wp2_with (simp only [hov])
  go_region_law (refine step_copy_run rfl (.tmp 73) (.tmp 76) 23 23 rfl (.slice (some ⟨g, (i + 1) * 5, none⟩) (n - i) (N - (i + 1))) (.slice (some ⟨g, i * 5, none⟩) (n + 1 - i) (N - i)) (by simp [Act.eval, Act.put]) (by simp [Act.eval, Act.put]) (HC1.out _ _ _ _ _ _ _ (by omega) (by omega) (by omega) (by omega)) ?_)
  go_wp2_with (first | (at_builtin; refine wpList_copy_run _ rfl (.tmp 80) (.tmp 81) 23 23 rfl (.slice (some ⟨g, i * 5, none⟩) (n + 1 - i) (N - i)) (.slice (some ⟨vb, 0, none⟩) 1 1) rfl rfl (HC2.out _ _ _ _ rfl rfl) ?_) | (with_reducible refine wpList_copy_run _ rfl (.tmp 80) (.tmp 81) 23 23 rfl (.slice (some ⟨g, i * 5, none⟩) (n + 1 - i) (N - i)) (.slice (some ⟨vb, 0, none⟩) 1 1) rfl rfl (HC2.out _ _ _ _ rfl rfl) ?_))
  go_ret
  exact HF.out

end Go.Proofs.YtbaecbibkmdbiaaDoor
