import Derived.Deep.RegionLaw
import Derived.Deep.RegionWith
import Derived.Test.YtgponahmkjohiabGreatDoorT1Pk17
namespace Go.Proofs.YtgponahmkjohiabGreatDoor
open Go.RowKit
set_option linter.unusedVariables false
theorem step_append_own {P : Program} {ops : Array Oper} {o : Oper} {a : Act} {w : World} {K : Act → World → Prop} {Q : Exit → Act → World → Prop} {E : Prop} (hgd : o.guard = none) (s x : Operand) (t : TypeId)
    (ho : o.op = .call { callee := .builtin .append, args := #[s, x], argTypes := #[t, t] })
    (base : Nat) (e : TypeId) (i : TypeInfo) (z : Value) (size bytes : Nat) (ht : P.underlying t = some (.slice e)) (hi : P.info? e = some i) (hz : i.zero = some z)
    (hsize : i.size = size) (hby : i.bytes = bytes) (hzs : z.cells.size = size) (hsz : 0 < size)
    (v : Value) (n : Nat) (xs : List Value) (hs : a.eval s = v) (hown : w.ownsRow base e size v n xs)
    (ad : Addr) (m c : Nat) (news : List Value) (hx : a.eval x = .slice (some ad) m c) (hl : news.length = m * size) (hnews : ∀ j u, news[j]? = some u → w.cell? (ad.add j) = some u) (h1 : ∀ u ∈ news, u.oneCell' = true)
    (h63 : n + m ≤ maxLen) (hbytes : (n + m) * bytes ≤ 140737488355328) (hbase : base ≤ w.heap.size)
    (h : ∀ v' w', w'.ownsRow base e size v' (n + m) (xs ++ news) → w.grownBy w' v.ownBlock → (v' = .slice none 0 0 ↔ v = .slice none 0 0 ∧ m = 0) → K (a.put o.dst v') w') :
    if Region.wanted o (yielded ops a.tmps) = true then Oper.wp P o a w K Q else E := by
  have hw : Region.wanted o (yielded ops a.tmps) = true := by simp [Region.wanted, hgd]
  rw [if_pos hw]
  exact wp_append_own w s x t ho base e i z size bytes ht hi hz hsize hby hzs hsz v n xs hs hown ad m c news hx hl hnews h1 h63 hbytes hbase h
theorem addr_add (b o j : Nat) : (⟨b, o, none⟩ : Addr).add j = ⟨b, o + j, none⟩ := by unfold Addr.add; split <;> simp_all
/-- The cells of tasks that lie one after another. -/
theorem Tks.cells {w : World} {B b o n : Nat} {ts : List Tk} (h : Tks w B (some ⟨b, o, none⟩) n ts) : ∀ j u, (ts.flatMap Tk.cells)[j]? = some u → w.cell? ((⟨b, o, none⟩ : Addr).add j) = some u := by
  intro j u hu
  have hj : j < ts.length * 5 := by rw [← cells_length]; exact (List.getElem?_eq_some_iff.1 hu).1
  obtain ⟨t, ht⟩ : ∃ t, ts[j / 5]? = some t := ⟨ts[j / 5]'(by omega), List.getElem?_eq_getElem _⟩
  have hj5 : j = j / 5 * 5 + j % 5 := by omega
  have hm : j % 5 < 5 := Nat.mod_lt _ (by decide)
  have hg := cells_get ts (j / 5) t ht (j % 5) hm
  rw [← hj5, hu] at hg
  obtain ⟨b', o', e, _, C⟩ := h.at_ _ _ ht
  injection e with e
  injection e with e1 e2
  subst e1 e2
  rw [addr_add]
  obtain ⟨c0, c1, c2, c3, c4⟩ := C
  rcases (by omega : j % 5 = 0 ∨ j % 5 = 1 ∨ j % 5 = 2 ∨ j % 5 = 3 ∨ j % 5 = 4) with h | h | h | h | h <;> rw [h] at hg hj5 <;> simp only [Tk.cells] at hg <;> (injection hg with hg; subst hg)
  · rw [hj5, Nat.add_zero]; exact c0
  · rw [hj5, ← Nat.add_assoc]; exact c1
  · rw [hj5, ← Nat.add_assoc]; exact c2
  · rw [hj5, ← Nat.add_assoc]; exact c3
  · rw [hj5, ← Nat.add_assoc]; exact c4
set_option maxRecDepth 100000 in
set_option maxHeartbeats 2000000 in
theorem sWithout_is (w : World) (A : Option Addr) (n c : Nat) (ts : List Tk) (k : Nat) (h : Tks w w.heap.size A n ts) (hn : n ≤ 100) (hnc : n ≤ c) (hk : k < n) :
    Calls Tryz.prog 169 #[.slice A n c, .int .i64 (k : Int)] w (LsRes (ts.eraseIdx k) w) := by
  obtain ⟨i0, hi, hz0, hz1, hz2⟩ := info_parts info_task
  obtain ⟨t, ht⟩ := get_at h.len hk
  obtain ⟨bb, oo, rfl, hbl, _⟩ := h.at_ k _ ht
  have H := Lib.hid h
  have HL := Lib.hid h.len
  clear h ht
  have i1 : (k : Int) ≤ (c : Int) := by omega
  have i2 : (k : Int) + 1 ≤ (n : Int) := by omega
  have i3 : (k : Int) + 1 ≤ (c : Int) := by omega
  have i4 : (n : Int) ≤ (c : Int) := by omega
  have i5 : (0 : Int) ≤ (k : Int) + 1 := by omega
  by_cases hkc : k + 1 = c
  · subst hkc
    obtain rfl : n = k + 1 := by omega
    have kw : IntKind.i64.wrap ((k : Int) + 1) = (k : Int) + 1 := IntWalk.i64_in _ (by omega)
    have i7 : (k : Int) ≤ (k : Int) + 1 := by omega
    have kn : ((k : Int) + 1).toNat = k + 1 := by omega
    go_enter Tryz.func169, Tryz.ntmps169
    go_wp2
    go_region_law (first | (refine step_append_own rfl (.tmp 5) (.tmp 8) 23 rfl w.heap.size 43 i0 _ 5 40 Tryz.underlying23 hi hz0 hz1 hz2 rfl (by decide) _ 0 [] rfl (Own.empty _) ⟨bb, oo, none⟩ k (k + 1) ((ts.take k).flatMap Tk.cells) rfl (by rw [cells_length, List.length_take, HL.out]; rw [Nat.min_eq_left (by omega)]) (Tks.cells (Tks.take (H.out.below (by repeat (first | with_reducible exact Below.refl w.heap.size w | with_reducible refine Below.drew ?_ | with_reducible refine bl_alloc ?_ _))) (by omega))) (cells_one _) (by unfold maxLen; omega) (by omega) (by simp) ?_; intro v1 w4 hown1 hgrow1 _; have HO1 := Lib.hid (show Own w4 w.heap.size v1 (ts.take k) from by unfold Own; rw [List.length_take, HL.out, Nat.min_eq_left (by omega)]; simpa using hown1); have HB1 := Lib.hid (show Below w.heap.size w w4 from (by repeat (first | with_reducible exact Below.refl w.heap.size w | with_reducible refine Below.drew ?_ | with_reducible refine bl_alloc ?_ _) : Below w.heap.size w _).grown hgrow1 (by simp) (fun q e => Nat.le_of_eq (Option.some.inj e))); have HS1 := HB1.out.size; clear hown1 hgrow1) | (refine step_append_own rfl (.tmp 9) (.tmp 13) 23 rfl w.heap.size 43 i0 _ 5 40 Tryz.underlying23 hi hz0 hz1 hz2 rfl (by decide) v1 (ts.take k).length ((ts.take k).flatMap Tk.cells) rfl HO1.out ⟨bb, oo, none⟩ 0 0 [] rfl rfl (fun j u hu => by simp at hu) (fun u hu => by simp at hu) (by unfold maxLen; rw [List.length_take]; omega) (by rw [List.length_take]; omega) HS1 ?_; intro v2 w5 hown2 hgrow2 _; have HB2 := Lib.hid (show Below w.heap.size w w5 from HB1.out.grown hgrow2 HS1 (fun q e => (World.ownsRow.lt HO1.out q e).1)); have HO2 := Lib.hid (show Own w5 w.heap.size v2 (ts.take k) from by unfold Own; simpa using hown2); clear hown2 hgrow2))
    go_wp2
    go_ret
    exact lsRes_of HO2.out HB2.out (by rw [List.eraseIdx_eq_take_drop_succ, List.drop_eq_nil_of_le (by rw [HL.out]; exact Nat.le_refl _), List.append_nil])
  have j1 : ((k : Int) + 1 == (c : Int)) = false := by rw [beq_eq_false_iff_ne]; omega
  have j2 : ¬ (k : Int) + 1 = (c : Int) := by omega
  have j4 : ¬ c = k + 1 := by omega
  go_enter Tryz.func169, Tryz.ntmps169
  go_wp2
  have kw : IntKind.i64.wrap ((k : Int) + 1) = (k : Int) + 1 := IntWalk.i64_in _ (by omega)
  have kn : ((k : Int) + 1).toNat = k + 1 := by omega
  go_region_law (first | (refine step_append_own rfl (.tmp 5) (.tmp 8) 23 rfl w.heap.size 43 i0 _ 5 40 Tryz.underlying23 hi hz0 hz1 hz2 rfl (by decide) _ 0 [] rfl (Own.empty _) ⟨bb, oo, none⟩ k c ((ts.take k).flatMap Tk.cells) rfl (by rw [cells_length, List.length_take, HL.out]; rw [Nat.min_eq_left (by omega)]) (Tks.cells (Tks.take (H.out.below (by repeat (first | with_reducible exact Below.refl w.heap.size w | with_reducible refine Below.drew ?_ | with_reducible refine bl_alloc ?_ _))) (by omega))) (cells_one _) (by unfold maxLen; omega) (by omega) (by simp) ?_; intro v1 w4 hown1 hgrow1 _; have HO1 := Lib.hid (show Own w4 w.heap.size v1 (ts.take k) from by unfold Own; rw [List.length_take, HL.out, Nat.min_eq_left (by omega)]; simpa using hown1); have HB1 := Lib.hid (show Below w.heap.size w w4 from (by repeat (first | with_reducible exact Below.refl w.heap.size w | with_reducible refine Below.drew ?_ | with_reducible refine bl_alloc ?_ _) : Below w.heap.size w _).grown hgrow1 (by simp) (fun q e => Nat.le_of_eq (Option.some.inj e))); have HS1 := HB1.out.size; clear hown1 hgrow1) | (refine step_append_own rfl (.tmp 9) (.tmp 13) 23 rfl w.heap.size 43 i0 _ 5 40 Tryz.underlying23 hi hz0 hz1 hz2 rfl (by decide) v1 (ts.take k).length ((ts.take k).flatMap Tk.cells) rfl HO1.out ⟨bb, oo + (k + 1) * 5, none⟩ (n - (k + 1)) (c - (k + 1)) ((ts.drop (k + 1)).flatMap Tk.cells) rfl (by rw [cells_length, List.length_drop, HL.out]) (Tks.cells (Tks.drop (k := k + 1) (H.out.below HB1.out) rfl)) (cells_one _) (by unfold maxLen; rw [List.length_take]; omega) (by rw [List.length_take]; omega) HS1 ?_; intro v2 w5 hown2 hgrow2 _; have HB2 := Lib.hid (show Below w.heap.size w w5 from HB1.out.grown hgrow2 HS1 (fun q e => (World.ownsRow.lt HO1.out q e).1)); have HO2 := Lib.hid (show Own w5 w.heap.size v2 (ts.take k ++ ts.drop (k + 1)) from by unfold Own; rw [List.length_append, List.length_drop, HL.out, List.flatMap_append]; exact hown2); clear hown2 hgrow2))
  go_wp2
  go_ret
  exact lsRes_of HO2.out HB2.out (by rw [List.eraseIdx_eq_take_drop_succ])
end Go.Proofs.YtgponahmkjohiabGreatDoor

namespace Go.Proofs.YtgponahmkjohiabGreatDoor
open Go.RowKit
set_option linter.unusedVariables false
theorem set_low (ts : List Tk) : ∀ (k : Nat) (t : Tk) (z : Int), ts[k]? = some t →
    (ts.flatMap Tk.cells).set (k * 5) (.int .i64 z) = (ts.set k { t with lo := z }).flatMap Tk.cells := by
  induction ts with
  | nil => intro k t z h; simp at h
  | cons a ts ih =>
    intro k t z h
    cases k with
    | zero =>
      simp at h
      subst h
      simp [List.flatMap_cons, Tk.cells]
    | succ k =>
      have e0 : (k + 1) * 5 = k * 5 + 5 := by omega
      simp only [List.flatMap_cons, Tk.cells, List.set_cons_succ, e0, List.cons_append, List.nil_append]
      rw [← ih k t z (by simpa using h)]
theorem set_high (ts : List Tk) : ∀ (k : Nat) (t : Tk) (z : Int), ts[k]? = some t →
    (ts.flatMap Tk.cells).set (k * 5 + 1) (.int .i64 z) = (ts.set k { t with hi := z }).flatMap Tk.cells := by
  induction ts with
  | nil => intro k t z h; simp at h
  | cons a ts ih =>
    intro k t z h
    cases k with
    | zero =>
      simp at h
      subst h
      simp [List.flatMap_cons, Tk.cells]
    | succ k =>
      have e0 : (k + 1) * 5 + 1 = k * 5 + 1 + 5 := by omega
      simp only [List.flatMap_cons, Tk.cells, List.set_cons_succ, e0, List.cons_append, List.nil_append]
      rw [← ih k t z (by simpa using h)]
theorem Own.low {w : World} {B h n c : Nat} {ts : List Tk} (ho : Own w B (.slice (some ⟨h, 0, none⟩) n c) ts) (k : Nat) (t : Tk) (z : Int) (ht : ts[k]? = some t) :
    Own (w.setCell ⟨h, k * 5, none⟩ (.int .i64 z)) B (.slice (some ⟨h, 0, none⟩) n c) (ts.set k { t with lo := z }) := by
  have hn := ho.reads.1
  subst hn
  have h5 := (World.ownsRow.stored ho (k * 5) (.int .i64 z)).1
  unfold Own
  rw [List.length_set, ← set_low ts k t z ht]
  exact h5
theorem Own.high {w : World} {B h n c : Nat} {ts : List Tk} (ho : Own w B (.slice (some ⟨h, 0, none⟩) n c) ts) (k : Nat) (t : Tk) (z : Int) (ht : ts[k]? = some t) :
    Own (w.setCell ⟨h, k * 5 + 1, none⟩ (.int .i64 z)) B (.slice (some ⟨h, 0, none⟩) n c) (ts.set k { t with hi := z }) := by
  have hn := ho.reads.1
  subst hn
  have h5 := (World.ownsRow.stored ho (k * 5 + 1) (.int .i64 z)).1
  unfold Own
  rw [List.length_set, ← set_high ts k t z ht]
  exact h5
end Go.Proofs.YtgponahmkjohiabGreatDoor

namespace Go.Proofs.YtgponahmkjohiabGreatDoor
open Go.RowKit
set_option linter.unusedVariables false
/-- Whether tasks hold by a policy. -/
def hBy (ts : List Tk) (pol : Int) : Bool := if pol = 0 then hBoth ts else if pol = 1 then virtV ts else false
theorem hBy_place (ts : List Tk) : hBy ts 0 = hBoth ts := rfl
theorem hBy_due (ts : List Tk) : hBy ts 1 = virtV ts := rfl
theorem hBy_no {ts : List Tk} {pol : Int} (h0 : ¬ pol = 0) (h1 : ¬ pol = 1) : hBy ts pol = false := by unfold hBy; rw [if_neg h0, if_neg h1]
theorem virt_set {ts : List Tk} (h : virtV ts = true) : setB ts = true := by
  unfold virtV at h
  rw [Bool.and_eq_true] at h
  exact imp_set (fac_imp h.1)
theorem hBy_set {ts : List Tk} {pol : Int} (h : hBy ts pol = true) : setB ts = true := by
  unfold hBy at h
  split at h
  · exact (hBoth_iff.1 h).1
  · split at h
    · exact virt_set h
    · cases h
end Go.Proofs.YtgponahmkjohiabGreatDoor

namespace Go.Proofs.YtgponahmkjohiabGreatDoor
open Go.RowKit
set_option linter.unusedVariables false
theorem assign_bad {ts : List Tk} (hs : setB ts = false) : assignOf ts = none := by unfold assignOf; rw [hs]; rfl
end Go.Proofs.YtgponahmkjohiabGreatDoor

namespace Go.Proofs.YtgponahmkjohiabGreatDoor
open Go.RowKit
set_option linter.unusedVariables false
/-- Whether a task is admitted, and the tasks then. -/
def admB (ts : List Tk) (t : Tk) (pol : Int) : Bool := hBy ts pol && (if pol = 0 then (assignOf (ts ++ [t])).isSome else hBy (ts ++ [t]) pol)
def admL (ts : List Tk) (t : Tk) (pol : Int) : List Tk := if admB ts t pol then (if pol = 0 then putN (ts ++ [t]) ((assignOf (ts ++ [t])).getD []) else ts ++ [t]) else []
theorem adm_no {ts : List Tk} {t : Tk} {pol : Int} (h : hBy ts pol = false) : admB ts t pol = false := by unfold admB; rw [h]; rfl
theorem adm_nil {ts : List Tk} {t : Tk} {pol : Int} (h : admB ts t pol = false) : admL ts t pol = [] := by unfold admL; rw [h]; rfl
theorem adm_place {ts : List Tk} {t : Tk} (h : hBy ts 0 = true) : admB ts t 0 = (assignOf (ts ++ [t])).isSome := by unfold admB; rw [h]; rfl
theorem adm_place_some {ts : List Tk} {t : Tk} {o : List Nat} (h : hBy ts 0 = true) (ho : assignOf (ts ++ [t]) = some o) : admB ts t 0 = true ∧ admL ts t 0 = putN (ts ++ [t]) o := by
  have hb : admB ts t 0 = true := by rw [adm_place h, ho]; rfl
  refine ⟨hb, ?_⟩
  unfold admL
  rw [if_pos hb, if_pos rfl, ho]; rfl
theorem adm_place_none {ts : List Tk} {t : Tk} (h : hBy ts 0 = true) (ho : assignOf (ts ++ [t]) = none) : admB ts t 0 = false ∧ admL ts t 0 = [] := by
  have hb : admB ts t 0 = false := by rw [adm_place h, ho]; rfl
  exact ⟨hb, adm_nil hb⟩
theorem adm_due {ts : List Tk} {t : Tk} {pol : Int} (h : hBy ts pol = true) (h0 : ¬ pol = 0) : admB ts t pol = hBy (ts ++ [t]) pol := by unfold admB; rw [h, if_neg h0]; rfl
theorem adm_due_some {ts : List Tk} {t : Tk} {pol : Int} (h : hBy ts pol = true) (h0 : ¬ pol = 0) (h1 : hBy (ts ++ [t]) pol = true) : admB ts t pol = true ∧ admL ts t pol = ts ++ [t] := by
  have hb : admB ts t pol = true := by rw [adm_due h h0, h1]
  refine ⟨hb, ?_⟩
  unfold admL
  rw [if_pos hb, if_neg h0]
theorem adm_pol {ts : List Tk} {t : Tk} {pol : Int} (h : admB ts t pol = true) : pol = 0 ∨ pol = 1 := by
  by_cases h0 : pol = 0
  · exact .inl h0
  by_cases h1 : pol = 1
  · exact .inr h1
  · rw [adm_no (hBy_no h0 h1)] at h; cases h
theorem adm_bad {ts : List Tk} {t : Tk} {pol : Int} (hs : setB (ts ++ [t]) = false) : admB ts t pol = false := by
  unfold admB
  split
  · rw [assign_bad hs]; simp
  · cases hx : hBy (ts ++ [t]) pol
    · simp
    · rw [hBy_set hx] at hs; cases hs
theorem hBy_pol {ts : List Tk} {pol : Int} (h : hBy ts pol = true) : pol = 0 ∨ pol = 1 := by
  by_cases h0 : pol = 0
  · exact .inl h0
  by_cases h1 : pol = 1
  · exact .inr h1
  · rw [hBy_no h0 h1] at h; cases h
theorem adm_facts {ts : List Tk} {t : Tk} {pol : Int} (h : admB ts t pol = true) : hBy ts pol = true ∧ hBy (admL ts t pol) pol = true ∧ (admL ts t pol).Perm (ts ++ [t]) ∧ setB (ts ++ [t]) = true := by
  have hh : hBy ts pol = true := by
    unfold admB at h
    rw [Bool.and_eq_true] at h
    exact h.1
  refine ⟨hh, ?_⟩
  rcases adm_pol h with rfl | rfl
  · rw [adm_place hh] at h
    obtain ⟨o, ho⟩ := Option.isSome_iff_exists.1 h
    obtain ⟨h1, h2, h3⟩ := assign_some ho
    rw [(adm_place_some hh ho).2]
    have hp := put_all h2
    exact ⟨hBoth_holds.2 ⟨by rw [set_perm hp]; exact h1, h3⟩, hp, h1⟩
  · rw [adm_due hh (by decide)] at h
    rw [(adm_due_some hh (by decide) h).2]
    exact ⟨h, List.Perm.refl _, hBy_set h⟩
theorem adm_len5 {ts : List Tk} {t : Tk} {pol : Int} : (admL ts t pol).length ≤ 5 := by
  cases h : admB ts t pol
  · rw [adm_nil h]; exact Nat.zero_le _
  · rw [(adm_facts h).2.2.1.length_eq]; exact setB_len (adm_facts h).2.2.2
end Go.Proofs.YtgponahmkjohiabGreatDoor

namespace Go.Proofs.YtgponahmkjohiabGreatDoor
open Go.RowKit
theorem two_set1 {w : World} {a c : Nat} {x y : Value} (h : w.cell? ⟨a, 0, none⟩ = some x ∧ w.cell? ⟨a, 1, none⟩ = some y) (hc : a ≠ c) (u v : Value) :
    ((w.setCell ⟨c, 0, none⟩ u).setCell ⟨c, 1, none⟩ v).cell? ⟨a, 0, none⟩ = some x ∧ ((w.setCell ⟨c, 0, none⟩ u).setCell ⟨c, 1, none⟩ v).cell? ⟨a, 1, none⟩ = some y := by
  have k : ∀ (X : World) (i j : Nat) (z : Value), (X.setCell ⟨c, j, none⟩ z).cell? ⟨a, i, none⟩ = X.cell? ⟨a, i, none⟩ := fun X i j z =>
    World.cell?_setCell_other X _ _ _ (fun e => by injection e with e1; exact hc e1.symm)
  exact ⟨(k _ _ _ _).trans ((k _ _ _ _).trans h.1), (k _ _ _ _).trans ((k _ _ _ _).trans h.2)⟩
end Go.Proofs.YtgponahmkjohiabGreatDoor
