/- Walk of the law FnPlainHigh. -/
import Derived.Test.YtpngfonnoepmfabDoorM6
import Derived.Test.YtpngfonnoepmfabDoorM2
import Derived.Test.YtpngfonnoepmfabDoorM8
import Derived.Test.YtpngfonnoepmfabDoorM5
import Derived.Test.YtpngfonnoepmfabDoorM3
import Derived.Deep.RegionWith
import Derived.Deep.RegionHeld3
namespace Go.Proofs.YtpngfonnoepmfabDoor
open Go.RowKit
set_option linter.unusedVariables false

theorem addr_add5 (b o j : Nat) : (⟨b, o, none⟩ : Addr).add j = ⟨b, o + j, none⟩ := by unfold Addr.add; split <;> simp_all
/-- The cells of tasks that lie one after another. -/
theorem Tks.cells5 {w : World} {B b o n : Nat} {ts : List Tk} (h : Tks w B (some ⟨b, o, none⟩) n ts) : ∀ j u, (ts.flatMap Tk.cells)[j]? = some u → w.cell? ((⟨b, o, none⟩ : Addr).add j) = some u := by
  intro j u hu
  have hj : j < ts.length * 5 := by rw [← cells_length]; exact (List.getElem?_eq_some_iff.1 hu).1
  obtain ⟨t, ht⟩ : ∃ t, ts[j / 5]? = some t := ⟨ts[j / 5]'(by omega), List.getElem?_eq_getElem _⟩
  have hj5 : j = j / 5 * 5 + j % 5 := by omega
  have hm : j % 5 < 5 := Nat.mod_lt _ (by decide)
  have hg := cells_get ts (j / 5) t ht (j % 5) hm
  rw [← hj5, hu] at hg
  obtain ⟨b', o', e, _, C⟩ := h.at_ _ _ ht
  injection e with e
  injection e with e1 e2
  subst e1 e2
  rw [addr_add5]
  obtain ⟨c0, c1, c2, c3, c4⟩ := C
  rcases (by omega : j % 5 = 0 ∨ j % 5 = 1 ∨ j % 5 = 2 ∨ j % 5 = 3 ∨ j % 5 = 4) with h | h | h | h | h <;> rw [h] at hg hj5 <;> simp only [Tk.cells] at hg <;> (injection hg with hg; subst hg)
  · rw [hj5, Nat.add_zero]; exact c0
  · rw [hj5, ← Nat.add_assoc]; exact c1
  · rw [hj5, ← Nat.add_assoc]; exact c2
  · rw [hj5, ← Nat.add_assoc]; exact c3
  · rw [hj5, ← Nat.add_assoc]; exact c4

theorem set_lo (ts : List Tk) : ∀ (k : Nat) (t : Tk) (z : Int), ts[k]? = some t →
    (ts.flatMap Tk.cells).set (k * 5) (.int .i64 z) = (ts.set k { t with lo := z }).flatMap Tk.cells := by
  induction ts with
  | nil => intro k t z h; simp at h
  | cons a ts ih =>
    intro k t z h
    cases k with
    | zero =>
      simp at h
      subst h
      simp [List.flatMap_cons, Tk.cells]
    | succ k =>
      have e0 : (k + 1) * 5 = k * 5 + 5 := by omega
      simp only [List.flatMap_cons, Tk.cells, List.set_cons_succ, e0, List.cons_append, List.nil_append]
      rw [← ih k t z (by simpa using h)]
theorem Own.lows {w : World} {B h n c : Nat} {ts : List Tk} (ho : Own w B (.slice (some ⟨h, 0, none⟩) n c) ts) (k : Nat) (t : Tk) (z : Int) (ht : ts[k]? = some t) :
    Own (w.setCell ⟨h, k * 5, none⟩ (.int .i64 z)) B (.slice (some ⟨h, 0, none⟩) n c) (ts.set k { t with lo := z }) := by
  have hn := ho.reads.1
  subst hn
  have h5 := (World.ownsRow.stored ho (k * 5) (.int .i64 z)).1
  unfold Own
  rw [List.length_set, ← set_lo ts k t z ht]
  exact h5
theorem up_step {ts : List Tk} {j : Nat} {t : Tk} (h : ts[j]? = some t) : (upL (ts.take j) ++ ts.drop j)[j]? = some t ∧ (upL (ts.take j) ++ ts.drop j).set j { t with lo := t.hi } = upL (ts.take (j + 1)) ++ ts.drop (j + 1) := by
  obtain ⟨hk, rfl⟩ := List.getElem?_eq_some_iff.1 h
  have hl : (upL (ts.take j)).length = j := by rw [upL_len, List.length_take]; omega
  constructor
  · rw [List.getElem?_append_right (by omega), hl, Nat.sub_self, List.getElem?_drop, Nat.add_zero]
    exact h
  · rw [List.set_append_right _ _ (by omega), hl, Nat.sub_self, List.drop_eq_getElem_cons hk, List.set_cons_zero, List.take_succ_eq_append_getElem hk]
    unfold upL
    rw [List.map_append, List.append_assoc]
    rfl

set_option maxRecDepth 100000 in
set_option maxHeartbeats 6000000 in
theorem fnPlainHigh_walk (w : World) (A : Option Addr) (n c : Nat) (f : Nat → Int) (h : Code w w.heap.size A n c f) (e0 : Addr) (he : EG w e0) :
    Calls Tryd.prog 3 #[.slice A n c] w fun e w' => e = .returned (.bool true) ∧ Below w.heap.size w w' := by
  have H := Lib.hid h
  have HE := Lib.hid he
  have hle := h.le
  have hmax := h.max
  unfold maxLen at hmax
  clear h he
  by_cases hn : 1048576 < n
  · go_enter Tryd.func3, Tryd.ntmps3
    go_wp2
    go_ret
    exact ⟨rfl, Below.refl _ _⟩
  go_enter Tryd.func3, Tryd.ntmps3
  go_wp2_with fail
  refine (dDrawHoldsPlain_any _ A n c f H.out).mono ?_
  rintro e w1 ⟨At, ct, ts, rfl, hl, ho, hb⟩
  have HB1 := Lib.hid hb
  have HO := Lib.hid ho
  have HTt := Lib.hid ho.reads.2
  clear hb H ho
  have HDt1 := Lib.hid (Below.refl w1.heap.size w1)
  cases hs : setB ts
  · have hp : plainV ts = false := (not_imp (imp_bad hs)).2.1
    go_wp2_with fail
    (try (go_quiet (fail); go_wp2_with fail))
    refine (iPlain_is _ At _ ct ts ((HTt.out.below (by repeat (first | with_reducible exact HDt1.out | with_reducible refine Below.drew ?_ | with_reducible refine bl_drewN ?_ _ | with_reducible refine bl_alloc ?_ _) : Below w1.heap.size w1 _)).more (Below.size (by repeat (first | with_reducible exact HDt1.out | with_reducible refine Below.drew ?_ | with_reducible refine bl_drewN ?_ _ | with_reducible refine bl_alloc ?_ _) : Below w1.heap.size w1 _))) (by omega) e0 (by repeat (first | exact HE.out.below HB1.out | refine EG.drewN ?_ _ | refine EG.drew ?_ | refine EG.alloc ?_ _)) false hp).mono ?_
    rintro e w2 ⟨rfl, hb⟩
    have hs2 := hb.size
    have HB2 := Lib.hid (show Below w.heap.size w w2 from bl_trans (by repeat (first | with_reducible exact HB1.out | with_reducible refine bl_drewN ?_ _ | with_reducible refine Below.drew ?_ | with_reducible refine bl_alloc ?_ _)) hb)
    have HDt2 := Lib.hid (show Below w1.heap.size w1 w2 from bl_trans (by repeat (first | with_reducible exact HDt1.out | with_reducible refine Below.drew ?_ | with_reducible refine bl_drewN ?_ _ | with_reducible refine bl_alloc ?_ _)) hb)
    clear hb HB1 HDt1
    go_wp2_with fail
    (try (go_quiet (fail); go_wp2_with fail))
    refine (sPlain_is _ At _ ct ts ((HTt.out.below (by repeat (first | with_reducible exact HDt2.out | with_reducible refine Below.drew ?_ | with_reducible refine bl_drewN ?_ _ | with_reducible refine bl_alloc ?_ _) : Below w1.heap.size w1 _)).more (Below.size (by repeat (first | with_reducible exact HDt2.out | with_reducible refine Below.drew ?_ | with_reducible refine bl_drewN ?_ _ | with_reducible refine bl_alloc ?_ _) : Below w1.heap.size w1 _))) (by omega) false hp).mono ?_
    rintro e w3 ⟨rfl, hb⟩
    have hs3 := hb.size
    have HB3 := Lib.hid (show Below w.heap.size w w3 from bl_trans (by repeat (first | with_reducible exact HB2.out | with_reducible refine bl_drewN ?_ _ | with_reducible refine Below.drew ?_ | with_reducible refine bl_alloc ?_ _)) hb)
    have HDt3 := Lib.hid (show Below w1.heap.size w1 w3 from bl_trans (by repeat (first | with_reducible exact HDt2.out | with_reducible refine Below.drew ?_ | with_reducible refine bl_drewN ?_ _ | with_reducible refine bl_alloc ?_ _)) hb)
    clear hb HB2 HDt2
    go_wp2_with fail
    (try (go_quiet (fail); go_wp2_with fail))
    refine (iSetValid_any _ At _ ct ts ((HTt.out.below (by repeat (first | with_reducible exact HDt3.out | with_reducible refine Below.drew ?_ | with_reducible refine bl_drewN ?_ _ | with_reducible refine bl_alloc ?_ _) : Below w1.heap.size w1 _)).more (Below.size (by repeat (first | with_reducible exact HDt3.out | with_reducible refine Below.drew ?_ | with_reducible refine bl_drewN ?_ _ | with_reducible refine bl_alloc ?_ _) : Below w1.heap.size w1 _))) (by omega) ).mono ?_
    rintro e w4 ⟨rfl, hb⟩
    have hs4 := hb.size
    have HB4 := Lib.hid (show Below w.heap.size w w4 from bl_trans (by repeat (first | with_reducible exact HB3.out | with_reducible refine bl_drewN ?_ _ | with_reducible refine Below.drew ?_ | with_reducible refine bl_alloc ?_ _)) hb)
    have HDt4 := Lib.hid (show Below w1.heap.size w1 w4 from bl_trans (by repeat (first | with_reducible exact HDt3.out | with_reducible refine Below.drew ?_ | with_reducible refine bl_drewN ?_ _ | with_reducible refine bl_alloc ?_ _)) hb)
    clear hb HB3 HDt3
    go_wp2_with fail
    (try (go_quiet (fail); go_wp2_with fail))
    refine (sPlain_is _ At _ ct ts ((HTt.out.below (by repeat (first | with_reducible exact HDt4.out | with_reducible refine Below.drew ?_ | with_reducible refine bl_drewN ?_ _ | with_reducible refine bl_alloc ?_ _) : Below w1.heap.size w1 _)).more (Below.size (by repeat (first | with_reducible exact HDt4.out | with_reducible refine Below.drew ?_ | with_reducible refine bl_drewN ?_ _ | with_reducible refine bl_alloc ?_ _) : Below w1.heap.size w1 _))) (by omega) false hp).mono ?_
    rintro e w5 ⟨rfl, hb⟩
    have hs5 := hb.size
    have HB5 := Lib.hid (show Below w.heap.size w w5 from bl_trans (by repeat (first | with_reducible exact HB4.out | with_reducible refine bl_drewN ?_ _ | with_reducible refine Below.drew ?_ | with_reducible refine bl_alloc ?_ _)) hb)
    have HDt5 := Lib.hid (show Below w1.heap.size w1 w5 from bl_trans (by repeat (first | with_reducible exact HDt4.out | with_reducible refine Below.drew ?_ | with_reducible refine bl_drewN ?_ _ | with_reducible refine bl_alloc ?_ _)) hb)
    clear hb HB4 HDt4
    go_wp2
    (try (go_quiet (fail); go_wp2))
    go_ret
    exact ⟨rfl, by repeat (first | with_reducible exact HB5.out | refine bl_drewN ?_ _ | refine Below.drew ?_ | refine bl_alloc ?_ _ | refine bl_set ?_ (by dsimp only; omega) _)⟩
  obtain ⟨b, hb⟩ : ∃ b, plainV ts = b := ⟨_, rfl⟩
  obtain ⟨u1, u2⟩ := up_plain hs
  rw [hb] at u1 u2
  have HP := Lib.hid (And.intro hb (And.intro u1 u2))
  obtain ⟨i0, hi, hz0, hz1, hz2⟩ := info_parts info_task
  clear hb u1 u2
  rcases HO.out.2 with ⟨e, h0⟩ | ⟨gg, cap, cur, e, hgg, _, hcap, hcm, _⟩
  · injection e with e1 e2 e3
    subst e1 e3
    obtain rfl : ts = [] := List.eq_nil_of_length_eq_zero h0
    clear h0 hs e2
    go_wp2_with fail
    (try (go_quiet (fail); go_wp2_with fail))
    refine (iPlain_is _ none _ 0 ([] : List Tk) ((HTt.out.below (by repeat (first | with_reducible exact HDt1.out | with_reducible refine Below.drew ?_ | with_reducible refine bl_drewN ?_ _ | with_reducible refine bl_alloc ?_ _) : Below w1.heap.size w1 _)).more (Below.size (by repeat (first | with_reducible exact HDt1.out | with_reducible refine Below.drew ?_ | with_reducible refine bl_drewN ?_ _ | with_reducible refine bl_alloc ?_ _) : Below w1.heap.size w1 _))) (by omega) e0 (by repeat (first | exact HE.out.below HB1.out | refine EG.drewN ?_ _ | refine EG.drew ?_ | refine EG.alloc ?_ _)) b HP.out.1).mono ?_
    rintro e w2 ⟨rfl, hb⟩
    have hs2 := hb.size
    have HB2 := Lib.hid (show Below w.heap.size w w2 from bl_trans (by repeat (first | with_reducible exact HB1.out | with_reducible refine bl_drewN ?_ _ | with_reducible refine Below.drew ?_ | with_reducible refine bl_alloc ?_ _)) hb)
    have HDt2 := Lib.hid (show Below w1.heap.size w1 w2 from bl_trans (by repeat (first | with_reducible exact HDt1.out | with_reducible refine Below.drew ?_ | with_reducible refine bl_drewN ?_ _ | with_reducible refine bl_alloc ?_ _)) hb)
    clear hb HB1 HDt1
    go_wp2_with fail
    (try (go_quiet (fail); go_wp2_with fail))
    refine (sPlain_is _ none _ 0 ([] : List Tk) ((HTt.out.below (by repeat (first | with_reducible exact HDt2.out | with_reducible refine Below.drew ?_ | with_reducible refine bl_drewN ?_ _ | with_reducible refine bl_alloc ?_ _) : Below w1.heap.size w1 _)).more (Below.size (by repeat (first | with_reducible exact HDt2.out | with_reducible refine Below.drew ?_ | with_reducible refine bl_drewN ?_ _ | with_reducible refine bl_alloc ?_ _) : Below w1.heap.size w1 _))) (by omega) b HP.out.1).mono ?_
    rintro e w3 ⟨rfl, hb⟩
    have hs3 := hb.size
    have HB3 := Lib.hid (show Below w.heap.size w w3 from bl_trans (by repeat (first | with_reducible exact HB2.out | with_reducible refine bl_drewN ?_ _ | with_reducible refine Below.drew ?_ | with_reducible refine bl_alloc ?_ _)) hb)
    have HDt3 := Lib.hid (show Below w1.heap.size w1 w3 from bl_trans (by repeat (first | with_reducible exact HDt2.out | with_reducible refine Below.drew ?_ | with_reducible refine bl_drewN ?_ _ | with_reducible refine bl_alloc ?_ _)) hb)
    clear hb HB2 HDt2
    go_wp2_with fail
    (try (go_quiet (fail); go_wp2_with fail))
    refine (iSetValid_any _ none _ 0 ([] : List Tk) ((HTt.out.below (by repeat (first | with_reducible exact HDt3.out | with_reducible refine Below.drew ?_ | with_reducible refine bl_drewN ?_ _ | with_reducible refine bl_alloc ?_ _) : Below w1.heap.size w1 _)).more (Below.size (by repeat (first | with_reducible exact HDt3.out | with_reducible refine Below.drew ?_ | with_reducible refine bl_drewN ?_ _ | with_reducible refine bl_alloc ?_ _) : Below w1.heap.size w1 _))) (by omega) ).mono ?_
    rintro e w4 ⟨rfl, hb⟩
    have hs4 := hb.size
    have HB4 := Lib.hid (show Below w.heap.size w w4 from bl_trans (by repeat (first | with_reducible exact HB3.out | with_reducible refine bl_drewN ?_ _ | with_reducible refine Below.drew ?_ | with_reducible refine bl_alloc ?_ _)) hb)
    have HDt4 := Lib.hid (show Below w1.heap.size w1 w4 from bl_trans (by repeat (first | with_reducible exact HDt3.out | with_reducible refine Below.drew ?_ | with_reducible refine bl_drewN ?_ _ | with_reducible refine bl_alloc ?_ _)) hb)
    clear hb HB3 HDt3
    have HNE := Lib.hid (fun (W : World) (aa : Option Addr) (nn cc : Nat) (hnn : nn = 0) (hE : EG W e0) => iPlain_is W aa nn cc [] (by rw [hnn]; exact ⟨rfl, fun i t h => by simp at h⟩) (by omega) e0 hE b HP.out.2.1)
    have HNF := Lib.hid (fun (W : World) (aa : Option Addr) (nn cc : Nat) (hnn : nn = 0) (hE : EG W e0) => iVirt_is W aa nn cc [] (by rw [hnn]; exact ⟨rfl, fun i t h => by simp at h⟩) (by omega) e0 hE b HP.out.2.2)
    go_wp2
    go_loopw [6] (fun i wr => i = .int .i64 0 ∧ Hid (Below w.heap.size w wr)) (fun i _ => 0)
    case atStart => exact ⟨rfl, Lib.hid (by repeat (first | with_reducible exact HB4.out | refine bl_drewN ?_ _ | refine Below.drew ?_ | refine bl_alloc ?_ _))⟩
    case round =>
      obtain ⟨rfl, HBr⟩ := hrel
      go_wp2_with fail
      refine (HNE.out _ _ 0 _ rfl (by repeat (first | exact HE.out.below HBr.out | refine EG.drewN ?_ _ | refine EG.drew ?_ | refine EG.alloc ?_ _))).mono ?_
      rintro e w8 ⟨rfl, hb⟩
      have HB8 := Lib.hid (bl_trans HBr.out hb)
      clear hb
      go_wp2_with fail
      refine (HNF.out _ _ 0 _ rfl (by repeat (first | exact HE.out.below HB8.out | refine EG.drewN ?_ _ | refine EG.drew ?_ | refine EG.alloc ?_ _))).mono ?_
      rintro e w9 ⟨rfl, hb⟩
      have HB9 := Lib.hid (bl_trans HB8.out hb)
      clear hb
      go_wp2
      go_ret
      exact ⟨rfl, HB9.out⟩
  · injection e with e1 e2 e3
    subst e1 e3
    unfold maxLen at hcm
    clear e2
    go_wp2_with fail
    (try (go_quiet (fail); go_wp2_with fail))
    refine (iPlain_is _ (some ⟨gg, 0, none⟩) _ ct ts ((HTt.out.below (by repeat (first | with_reducible exact HDt1.out | with_reducible refine Below.drew ?_ | with_reducible refine bl_drewN ?_ _ | with_reducible refine bl_alloc ?_ _) : Below w1.heap.size w1 _)).more (Below.size (by repeat (first | with_reducible exact HDt1.out | with_reducible refine Below.drew ?_ | with_reducible refine bl_drewN ?_ _ | with_reducible refine bl_alloc ?_ _) : Below w1.heap.size w1 _))) (by omega) e0 (by repeat (first | exact HE.out.below HB1.out | refine EG.drewN ?_ _ | refine EG.drew ?_ | refine EG.alloc ?_ _)) b HP.out.1).mono ?_
    rintro e w2 ⟨rfl, hb⟩
    have hs2 := hb.size
    have HB2 := Lib.hid (show Below w.heap.size w w2 from bl_trans (by repeat (first | with_reducible exact HB1.out | with_reducible refine bl_drewN ?_ _ | with_reducible refine Below.drew ?_ | with_reducible refine bl_alloc ?_ _)) hb)
    have HDt2 := Lib.hid (show Below w1.heap.size w1 w2 from bl_trans (by repeat (first | with_reducible exact HDt1.out | with_reducible refine Below.drew ?_ | with_reducible refine bl_drewN ?_ _ | with_reducible refine bl_alloc ?_ _)) hb)
    clear hb HB1 HDt1
    go_wp2_with fail
    (try (go_quiet (fail); go_wp2_with fail))
    refine (sPlain_is _ (some ⟨gg, 0, none⟩) _ ct ts ((HTt.out.below (by repeat (first | with_reducible exact HDt2.out | with_reducible refine Below.drew ?_ | with_reducible refine bl_drewN ?_ _ | with_reducible refine bl_alloc ?_ _) : Below w1.heap.size w1 _)).more (Below.size (by repeat (first | with_reducible exact HDt2.out | with_reducible refine Below.drew ?_ | with_reducible refine bl_drewN ?_ _ | with_reducible refine bl_alloc ?_ _) : Below w1.heap.size w1 _))) (by omega) b HP.out.1).mono ?_
    rintro e w3 ⟨rfl, hb⟩
    have hs3 := hb.size
    have HB3 := Lib.hid (show Below w.heap.size w w3 from bl_trans (by repeat (first | with_reducible exact HB2.out | with_reducible refine bl_drewN ?_ _ | with_reducible refine Below.drew ?_ | with_reducible refine bl_alloc ?_ _)) hb)
    have HDt3 := Lib.hid (show Below w1.heap.size w1 w3 from bl_trans (by repeat (first | with_reducible exact HDt2.out | with_reducible refine Below.drew ?_ | with_reducible refine bl_drewN ?_ _ | with_reducible refine bl_alloc ?_ _)) hb)
    clear hb HB2 HDt2
    go_wp2_with fail
    (try (go_quiet (fail); go_wp2_with fail))
    refine (iSetValid_any _ (some ⟨gg, 0, none⟩) _ ct ts ((HTt.out.below (by repeat (first | with_reducible exact HDt3.out | with_reducible refine Below.drew ?_ | with_reducible refine bl_drewN ?_ _ | with_reducible refine bl_alloc ?_ _) : Below w1.heap.size w1 _)).more (Below.size (by repeat (first | with_reducible exact HDt3.out | with_reducible refine Below.drew ?_ | with_reducible refine bl_drewN ?_ _ | with_reducible refine bl_alloc ?_ _) : Below w1.heap.size w1 _))) (by omega) ).mono ?_
    rintro e w4 ⟨rfl, hb⟩
    have hs4 := hb.size
    have HB4 := Lib.hid (show Below w.heap.size w w4 from bl_trans (by repeat (first | with_reducible exact HB3.out | with_reducible refine bl_drewN ?_ _ | with_reducible refine Below.drew ?_ | with_reducible refine bl_alloc ?_ _)) hb)
    have HDt4 := Lib.hid (show Below w1.heap.size w1 w4 from bl_trans (by repeat (first | with_reducible exact HDt3.out | with_reducible refine Below.drew ?_ | with_reducible refine bl_drewN ?_ _ | with_reducible refine bl_alloc ?_ _)) hb)
    clear hb HB3 HDt3
    go_wp2_with (at_builtin; refine wpList_append_own _ rfl (.tmp 27) (.tmp 28) 23 rfl w4.heap.size 27 i0 _ 5 40 Tryd.underlying23 hi hz0 hz1 hz2 rfl (by decide) _ 0 [] rfl (Own.empty _) ⟨gg, 0, none⟩ ts.length ct (ts.flatMap Tk.cells) rfl (by rw [cells_length]) (Tks.cells5 (HTt.out.below (by repeat (first | with_reducible exact HDt4.out | with_reducible refine Below.drew ?_ | with_reducible refine bl_drewN ?_ _ | with_reducible refine bl_alloc ?_ _)))) (cells_one _) (by unfold maxLen; omega) (by omega) (by simp) ?_; intro v1 w8 hown1 hgrow1 _; have HO1 := Lib.hid (show Own w8 w4.heap.size v1 ts from by unfold Own; simpa using hown1); have HB8 := Lib.hid (show Below w4.heap.size w4 w8 from (by repeat (first | with_reducible exact Below.refl w4.heap.size w4 | with_reducible refine Below.drew ?_ | with_reducible refine bl_alloc ?_ _) : Below w4.heap.size w4 _).grown hgrow1 (by simp) (fun x e => (World.ownsRow.lt (Own.empty _) x e).1)); obtain ⟨A3, c3, rfl⟩ := HO1.out.form; clear hown1 hgrow1)
    have HO2 := Lib.hid HO1.out
    have HBw := Lib.hid (show Below w.heap.size w w8 from bl_trans HB4.out HB8.out)
    have hsz8 := HB8.out.size
    rcases HO2.out.2 with ⟨e, h0⟩ | ⟨g8, cap8, cur8, e, hg8, _⟩
    · injection e with e1 e2 e3
      subst e1 e3
      have HO0 := Lib.hid h0
      obtain rfl : ts = [] := List.eq_nil_of_length_eq_zero h0
      clear h0 e2
      have HNE := Lib.hid (fun (W : World) (aa : Option Addr) (nn cc : Nat) (hnn : nn = 0) (hE : EG W e0) => iPlain_is W aa nn cc [] (by rw [hnn]; exact ⟨rfl, fun i t h => by simp at h⟩) (by omega) e0 hE b HP.out.2.1)
      have HNF := Lib.hid (fun (W : World) (aa : Option Addr) (nn cc : Nat) (hnn : nn = 0) (hE : EG W e0) => iVirt_is W aa nn cc [] (by rw [hnn]; exact ⟨rfl, fun i t h => by simp at h⟩) (by omega) e0 hE b HP.out.2.2)
      go_wp2
      go_loopw [6] (fun i wr => i = .int .i64 0 ∧ Hid (Below w.heap.size w wr)) (fun i _ => 0)
      case atStart => exact ⟨rfl, HBw⟩
      case round =>
        obtain ⟨rfl, HBr⟩ := hrel
        go_wp2_with fail
        refine (HNE.out _ _ 0 _ rfl (by repeat (first | exact HE.out.below HBr.out | refine EG.drewN ?_ _ | refine EG.drew ?_ | refine EG.alloc ?_ _))).mono ?_
        rintro e wA ⟨rfl, hb⟩
        have HBA := Lib.hid (bl_trans HBr.out hb)
        clear hb
        go_wp2_with fail
        refine (HNF.out _ _ 0 _ rfl (by repeat (first | exact HE.out.below HBA.out | refine EG.drewN ?_ _ | refine EG.drew ?_ | refine EG.alloc ?_ _))).mono ?_
        rintro e wC ⟨rfl, hb⟩
        have HBC := Lib.hid (bl_trans HBA.out hb)
        clear hb
        go_wp2
        go_ret
        exact ⟨rfl, HBC.out⟩
    · injection e with e1 e2 e3
      subst e1 e3
      clear e2
      go_wp2
      go_loopw [6] (fun i wr => ∃ j : Nat, j ≤ ts.length ∧ i = .int .i64 j ∧ Hid (Own wr w4.heap.size (.slice (some ⟨g8, 0, none⟩) ts.length c3) (upL (ts.take j) ++ ts.drop j)) ∧ Hid (Below w.heap.size w wr)) (fun i _ => ts.length - (intOf i).toNat)
      case atStart => exact ⟨0, Nat.zero_le _, rfl, Lib.hid (by simpa [upL] using HO2.out), HBw⟩
      case round =>
        obtain ⟨j, hj, rfl, HOr, HBr⟩ := hrel
        by_cases hlt : j < ts.length
        · obtain ⟨t, ht⟩ : ∃ t, ts[j]? = some t := ⟨ts[j], List.getElem?_eq_getElem hlt⟩
          obtain ⟨q1, q2⟩ := up_step ht
          have HX := Lib.hid (HOr.out.lows j t t.hi q1)
          rw [q2] at HX
          have HXB := Lib.hid (bl_set HBr.out (p := ⟨g8, j * 5, none⟩) (by dsimp only; have := HB4.out.size; omega) (.int .i64 t.hi))
          obtain ⟨b2, o2, eA, hbl, c0, c1, c2, c3', c4⟩ := HOr.out.reads.2.at_ j t q1
          injection eA with eA
          injection eA with eA1 eA2
          subst eA1 eA2
          simp only [Nat.zero_add] at c0 c1 c2 c3' c4
          have hfz := HOr.out.frozen
          have hji : (j : Int) < (ts.length : Int) := by omega
          have hj0 : (0 : Int) ≤ (j : Int) := by omega
          clear ht q1 q2 HOr HBr
          go_wp2
          go_roundw
          case rel => exact ⟨j + 1, by omega, by go_num, HX, HXB⟩
          case measure => simp [intOf]; omega
        · obtain rfl : j = ts.length := by omega
          have HU : Hid (Own wr w4.heap.size (.slice (some ⟨g8, 0, none⟩) ts.length c3) (upL ts)) := Lib.hid (by have h := HOr.out; rw [List.take_length, List.drop_length, List.append_nil] at h; exact h)
          have HTu := Lib.hid HU.out.reads.2
          go_wp2_with fail
          refine (iPlain_is wr (some ⟨g8, 0, none⟩) ts.length c3 (upL ts) HTu.out (by omega) e0 (HE.out.below HBr.out) b HP.out.2.1).mono ?_
          rintro e wA ⟨rfl, hb⟩
          have HBA := Lib.hid (bl_trans HBr.out hb)
          have HTA := Lib.hid ((HTu.out.below hb).more hb.size)
          clear hb
          go_wp2_with fail
          refine (iVirt_is wA (some ⟨g8, 0, none⟩) ts.length c3 (upL ts) HTA.out (by omega) e0 (HE.out.below HBA.out) b HP.out.2.2).mono ?_
          rintro e wC ⟨rfl, hb⟩
          have HBC := Lib.hid (bl_trans HBA.out hb)
          clear hb
          go_wp2
          go_ret
          exact ⟨rfl, HBC.out⟩

end Go.Proofs.YtpngfonnoepmfabDoor
