/- Texts of this seat in one file: Two, Two3, SImp, Dr5, PImp. -/
import Derived.Test.YtpngfonnoepmfabM2
import Derived.Test.YtpngfonnoepmfabM1
import Derived.Deep.RegionWith
import Derived.RegionTactic
import Derived.ChangeAlike
import Derived.Deep.RegionHeld3
namespace Go.Proofs.Ytpngfonnoepmfab
open Go.RowKit

def BoolRes (b : Bool) (w : World) (e : Ending) (w' : World) : Prop := e = .returned (.bool b) ∧ Below w.heap.size w w'

section
/- Two cells of a block. -/
open Go.RowKit
theorem Blk.two {w : World} {a : Nat} {t : TypeId} {x y : Value} (h : Blk w a t #[x, y]) : w.cell? ⟨a, 0, none⟩ = some x ∧ w.cell? ⟨a, 1, none⟩ = some y := ⟨h.cell 0, h.cell 1⟩
theorem two_alloc1 {w : World} {a : Nat} {x y : Value} (h : w.cell? ⟨a, 0, none⟩ = some x ∧ w.cell? ⟨a, 1, none⟩ = some y) (o : Obj) : (w.alloc o).cell? ⟨a, 0, none⟩ = some x ∧ (w.alloc o).cell? ⟨a, 1, none⟩ = some y :=
  ⟨(World.cell?_alloc_lt w o _ (World.block_lt_of_cell? w _ h.1)).trans h.1, (World.cell?_alloc_lt w o _ (World.block_lt_of_cell? w _ h.2)).trans h.2⟩
theorem two_alloc2 {w : World} {a b : Nat} {x y u v : Value} (h : (w.cell? ⟨a, 0, none⟩ = some x ∧ w.cell? ⟨a, 1, none⟩ = some y) ∧ (w.cell? ⟨b, 0, none⟩ = some u ∧ w.cell? ⟨b, 1, none⟩ = some v)) (o : Obj) :
    ((w.alloc o).cell? ⟨a, 0, none⟩ = some x ∧ (w.alloc o).cell? ⟨a, 1, none⟩ = some y) ∧ ((w.alloc o).cell? ⟨b, 0, none⟩ = some u ∧ (w.alloc o).cell? ⟨b, 1, none⟩ = some v) := ⟨two_alloc1 h.1 o, two_alloc1 h.2 o⟩
theorem Tks.take {w : World} {B : Nat} {A : Option Addr} {n k : Nat} {ts : List Tk} (h : Tks w B A n ts) (hk : k ≤ n) : Tks w B A k (ts.take k) :=
  ⟨by rw [List.length_take, h.len]; omega, fun i t ht => h.at_ i t (by
    rw [List.getElem?_take] at ht
    split at ht
    · exact ht
    · cases ht)⟩
theorem Tks.drop {w : World} {B b o : Nat} {n k m : Nat} {ts : List Tk} (h : Tks w B (some ⟨b, o, none⟩) n ts) (hm : m = o + k * 5) : Tks w B (some ⟨b, m, none⟩) (n - k) (ts.drop k) :=
  ⟨by rw [List.length_drop, h.len], fun i t ht => by
    rw [List.getElem?_drop] at ht
    obtain ⟨b', o', e, hb, hc⟩ := h.at_ _ _ ht
    injection e with e
    injection e with e1 e2
    subst e1 e2 hm
    refine ⟨b, _, rfl, hb, ?_⟩
    rw [show o + k * 5 + i * 5 = o + (k + i) * 5 by omega]
    exact hc⟩
theorem Tks.none_ {w : World} {B : Nat} {A : Option Addr} : Tks w B A 0 [] := ⟨rfl, fun i t ht => by simp at ht⟩
end

section
/- Two cells of a block behind two stores into another block; parts of lists. -/
open Go.RowKit
theorem two_set1 {w : World} {a c : Nat} {x y : Value} (h : w.cell? ⟨a, 0, none⟩ = some x ∧ w.cell? ⟨a, 1, none⟩ = some y) (hc : a ≠ c) (u v : Value) :
    ((w.setCell ⟨c, 0, none⟩ u).setCell ⟨c, 1, none⟩ v).cell? ⟨a, 0, none⟩ = some x ∧ ((w.setCell ⟨c, 0, none⟩ u).setCell ⟨c, 1, none⟩ v).cell? ⟨a, 1, none⟩ = some y := by
  have k : ∀ (X : World) (i j : Nat) (z : Value), (X.setCell ⟨c, j, none⟩ z).cell? ⟨a, i, none⟩ = X.cell? ⟨a, i, none⟩ := fun X i j z =>
    World.cell?_setCell_other X _ _ _ (fun e => by injection e with e1; exact hc e1.symm)
  exact ⟨(k _ _ _ _).trans ((k _ _ _ _).trans h.1), (k _ _ _ _).trans ((k _ _ _ _).trans h.2)⟩
theorem two_set2 {w : World} {a b c : Nat} {x y s t : Value} (h : (w.cell? ⟨a, 0, none⟩ = some x ∧ w.cell? ⟨a, 1, none⟩ = some y) ∧ (w.cell? ⟨b, 0, none⟩ = some s ∧ w.cell? ⟨b, 1, none⟩ = some t)) (ha : a ≠ c) (hb : b ≠ c) (u v : Value) :
    (((w.setCell ⟨c, 0, none⟩ u).setCell ⟨c, 1, none⟩ v).cell? ⟨a, 0, none⟩ = some x ∧ ((w.setCell ⟨c, 0, none⟩ u).setCell ⟨c, 1, none⟩ v).cell? ⟨a, 1, none⟩ = some y) ∧ (((w.setCell ⟨c, 0, none⟩ u).setCell ⟨c, 1, none⟩ v).cell? ⟨b, 0, none⟩ = some s ∧ ((w.setCell ⟨c, 0, none⟩ u).setCell ⟨c, 1, none⟩ v).cell? ⟨b, 1, none⟩ = some t) :=
  ⟨two_set1 h.1 ha u v, two_set1 h.2 hb u v⟩
end

section
/- Contract of the reference's Implicit. Nothing that was there is written. -/
open Go.RowKit
set_option linter.unusedVariables false

theorem imp_bad {ts : List Tk} (h : setB ts = false) : impB ts = false := by unfold impB; rw [h]; rfl
theorem imp_not {ts : List Tk} {k : Nat} {t : Tk} (ht : ts[k]? = some t) (h : t.du ≠ t.ev) : impB ts = false := by
  cases hi : impB ts
  · rfl
  · exact absurd (imp_all hi t (List.mem_of_getElem? ht)) h
theorem imp_step {ts : List Tk} {k : Nat} {t : Tk} (ht : ts[k]? = some t) (he : t.du = t.ev) (h : ∀ u ∈ ts.take k, u.du = u.ev) : ∀ u ∈ ts.take (k + 1), u.du = u.ev := by
  obtain ⟨hk, rfl⟩ := List.getElem?_eq_some_iff.1 ht
  rw [List.take_succ_eq_append_getElem hk]
  intro u hu
  rcases List.mem_append.1 hu with hu | hu
  · exact h u hu
  · rw [List.mem_singleton.1 hu]; exact he

set_option maxHeartbeats 1000000 in
theorem sImp_is (w : World) (A : Option Addr) (n c : Nat) (ts : List Tk) (h : Tks w w.heap.size A n ts) (hn : n ≤ 1048576) (b : Bool) (hb : impB ts = b) :
    Calls Try.prog 7 #[.slice A n c] w (BoolRes b w) := by
  have H := Lib.hid h
  have HL := Lib.hid h.len
  clear h
  cases hs : setB ts
  · obtain rfl : b = false := by rw [← hb]; exact imp_bad hs
    have hn0 : 0 < n := by
      rw [← HL.out]
      rcases ts with _ | ⟨t, ts⟩
      · simp [setB] at hs
      · simp
    have HS := Lib.hid hs
    clear hb hs
    go_enter Try.func7, Try.ntmps7
    go_wp2
    go_loopw [3] (fun i wr => i = .int .i64 0 ∧ Hid (Below w.heap.size w wr)) (fun i _ => 0)
    case atStart => exact ⟨rfl, Lib.hid (Below.refl _ _)⟩
    case round =>
      obtain ⟨rfl, HB⟩ := hrel
      have i2 : (0 : Int) < (n : Int) := by omega
      go_wp2_with fail
      refine (sSetValid_any _ A n c ts ((H.out.below HB.out).more HB.out.size) hn).mono ?_
      rintro e w1 ⟨rfl, hb1⟩
      rw [HS.out]
      have HB1 := Lib.hid (bl_trans HB.out hb1)
      clear hb1
      go_wp2_with fail
      refine (sSetValid_any _ A n c ts ((H.out.below HB1.out).more HB1.out.size) hn).mono ?_
      rintro e w2 ⟨rfl, hb2⟩
      rw [HS.out]
      have HB2 := Lib.hid (bl_trans HB1.out hb2)
      clear hb2
      go_wp2
      refine bodyPost_ret (v := .bool false) (by simp [results, Try.results7, go_sem]) rfl ⟨rfl, HB2.out⟩
  have HS := Lib.hid hs
  have HI := Lib.hid hb
  clear hb hs
  go_enter Try.func7, Try.ntmps7
  go_wp2
  go_loopw [3] (fun i wr => ∃ k : Nat, k ≤ n ∧ i = .int .i64 k ∧ Hid (∀ u ∈ ts.take k, u.du = u.ev) ∧ Hid (Below w.heap.size w wr)) (fun i _ => n - (intOf i).toNat)
  case atStart => exact ⟨0, Nat.zero_le _, rfl, Lib.hid (by intro u hu; simp at hu), Lib.hid (Below.refl _ _)⟩
  case round =>
    obtain ⟨k, hk, rfl, hall, HB⟩ := hrel
    by_cases hlt : k < n
    · obtain ⟨t, ht⟩ : ∃ t, ts[k]? = some t := ⟨ts[k]'(by rw [HL.out]; exact hlt), List.getElem?_eq_getElem _⟩
      have i1 : (0 : Int) ≤ (k : Int) := by omega
      have i2 : (k : Int) < (n : Int) := by omega
      go_wp2_with fail
      refine (sSetValid_any _ A n c ts ((H.out.below HB.out).more HB.out.size) hn).mono ?_
      rintro e w1 ⟨rfl, hb1⟩
      rw [HS.out]
      have HB1 := Lib.hid (bl_trans HB.out hb1)
      clear hb1 HB
      obtain ⟨b0, o, rfl, hbl, c0, c1, c2, c3, c4⟩ := (H.out.below HB1.out).at_ k t ht
      have hno := fun hne => imp_not ht (t := t) hne
      have hyes := fun he => imp_step ht (t := t) he hall.out
      clear ht hall
      obtain ⟨lo, hi, du, ev, cr⟩ := t
      dsimp only at c0 c1 c2 c3 c4 hno hyes
      by_cases he : du = ev
      · subst he
        have hY := Lib.hid (hyes rfl)
        clear hyes hno
        have hd : (du != du) = false := by simp
        go_wp2_with fail
        go_quiet (fail)
        go_wp2
        go_roundw
        case rel => exact ⟨k + 1, by omega, by go_num, hY, Lib.hid (bl_drewN HB1.out _)⟩
        case measure => simp [intOf]; omega
      · have hN := Lib.hid (hno he)
        clear hyes hno
        have hd : (du != ev) = true := by simp; exact he
        obtain rfl : b = false := by rw [← HI.out]; exact hN.out
        go_wp2_with fail
        go_quiet (fail)
        go_wp2
        refine bodyPost_ret (v := .bool false) (by simp [results, Try.results7, go_sem]) rfl ⟨rfl, bl_drewN HB1.out _⟩
    · obtain rfl : k = n := by omega
      have i2 : ¬ (k : Int) < (k : Int) := by omega
      have hT : impB ts = true := imp_of HS.out (by have := hall.out; rw [List.take_of_length_le (by rw [HL.out]; omega)] at this; exact this)
      obtain rfl : b = true := by rw [← HI.out]; exact hT
      clear hT
      go_wp2_with fail
      refine (sSetValid_any _ A k c ts ((H.out.below HB.out).more HB.out.size) hn).mono ?_
      rintro e w2 ⟨rfl, hb2⟩
      rw [HS.out]
      have HB2 := Lib.hid (bl_trans HB.out hb2)
      clear hb2
      go_wp2
      refine bodyPost_ret (v := .bool true) (by simp [results, Try.results7, go_sem]) rfl ⟨rfl, HB2.out⟩
end

section
/- Draws of the arguments of chapter 5's functions. -/
open Go.RowKit

theorem set_due (ts : List Tk) : ∀ (k : Nat) (t : Tk) (z : Int), ts[k]? = some t →
    (ts.flatMap Tk.cells).set (k * 5 + 2) (.int .i64 z) = (ts.set k { t with du := z }).flatMap Tk.cells := by
  induction ts with
  | nil => intro k t z h; simp at h
  | cons a ts ih =>
    intro k t z h
    cases k with
    | zero =>
      simp at h
      subst h
      simp [List.flatMap_cons, Tk.cells]
    | succ k =>
      have e0 : (k + 1) * 5 + 2 = k * 5 + 2 + 5 := by omega
      simp only [List.flatMap_cons, Tk.cells, List.set_cons_succ, e0, List.cons_append, List.nil_append]
      rw [← ih k t z (by simpa using h)]
theorem Own.due {w : World} {B h n c : Nat} {ts : List Tk} (ho : Own w B (.slice (some ⟨h, 0, none⟩) n c) ts) (k : Nat) (t : Tk) (z : Int) (ht : ts[k]? = some t) :
    Own (w.setCell ⟨h, k * 5 + 2, none⟩ (.int .i64 z)) B (.slice (some ⟨h, 0, none⟩) n c) (ts.set k { t with du := z }) := by
  have hn := ho.reads.1
  subst hn
  have h5 := (World.ownsRow.stored ho (k * 5 + 2) (.int .i64 z)).1
  unfold Own
  rw [List.length_set, ← set_due ts k t z ht]
  exact h5

set_option maxRecDepth 100000 in
set_option maxHeartbeats 2000000 in
theorem l5Set_any (w : World) (B g : Nat) (A : Option Addr) (n c : Nat) (f : Nat → Int) (p : Nat) (hr : Rd w B g A n c f p) (hp : p ≤ 1000) :
    Calls Try.prog 13 #[.pointer (some ⟨g, 0, none⟩)] w (LsOut B g A n c f p 101 6 (fun _ => True) w) := by
  have HR0 := Lib.hid hr
  have hgl := hr.lt
  have hBg := hr.ge
  clear hr
  go_enter Try.func13, Try.ntmps13
  go_wp2_with fail
  refine (some_any _ _ _ _ _ _ _ _ HR0.out hp).mono ?_
  rintro e w2 ⟨v, ts, p', rfl, hl, _, hp', hr, hgb, ho⟩
  obtain ⟨A2, c2, rfl⟩ := ho.form
  have HR := Lib.hid hr
  have HG := Lib.hid hgb
  have HO := Lib.hid ho
  clear hr hgb ho
  go_wp2_with fail
  refine (pick_any _ B g A n c f p' 5 HR.out (by omega) (by omega)).mono ?_
  rintro e w3 ⟨y, rfl, y0, _, _, hr, hgb⟩
  have HR3 := Lib.hid hr
  have HG3 := Lib.hid (gb_trans HG.out hgb (fun x e => .inl (by injection e with e; exact e.symm)))
  have HO3 := Lib.hid (HO.out.kept hgb (fun k e => by injection e with e; omega))
  clear hr hgb HR HG HO
  by_cases hy : 0 < y
  · have hyd : decide (y > 0) = true := by simp; exact hy
    rcases HO3.out.2 with ⟨e, h0⟩ | ⟨gg, cap, cur, e, hgg, _⟩
    · injection e with e1 e2 e3
      subst e1 e3
      have h0i : (ts.length : Int) = 0 := by omega
      have HO0 := Lib.hid (show Own w3 w.heap.size (.slice none 0 0) ts by have h := HO3.out; rw [h0] at h; exact h)
      go_wp2
      go_loopw [4] (fun i wr => i = .int .i64 0 ∧ wr = w3) (fun i _ => 0)
      case atStart => exact ⟨rfl, rfl⟩
      case round =>
        obtain ⟨rfl, rfl⟩ := hrel
        go_wp2
        go_ret
        exact ⟨_, ts, p' + 1, rfl, hl, fun _ _ => trivial, by omega, HR3.out, HG3.out, HO0.out⟩
    · injection e with e1 e2 e3
      subst e1 e3
      go_wp2
      go_loopw [4] (fun i wr => ∃ (j : Nat) (us : List Tk), j ≤ ts.length ∧ i = .int .i64 j ∧ us.length = ts.length ∧ Own wr w.heap.size (.slice (some ⟨gg, 0, none⟩) ts.length c2) us ∧ Rd wr B g A n c f (p' + 1) ∧ w.grownBy wr (some g)) (fun i _ => ts.length - (intOf i).toNat)
      case atStart => exact ⟨0, ts, Nat.zero_le _, rfl, rfl, HO3.out, HR3.out, HG3.out⟩
      case round =>
        obtain ⟨j, us, hj, rfl, hus, ho, hr, hg⟩ := hrel
        have HOR := Lib.hid ho
        have HRR := Lib.hid hr
        have HGR := Lib.hid hg
        have HUS := Lib.hid hus
        clear ho hr hg hus
        by_cases hlt : j < ts.length
        · obtain ⟨t, ht⟩ : ∃ t, us[j]? = some t := ⟨us[j]'(by rw [HUS.out]; exact hlt), List.getElem?_eq_getElem _⟩
          obtain ⟨b, o, eA, hbl, c0, c1, c2', c3, c4⟩ := HOR.out.reads.2.at_ j t ht
          injection eA with eA
          injection eA with eA1 eA2
          subst eA1 eA2
          simp only [Nat.zero_add] at c0 c1 c2' c3 c4
          have hfz := HOR.out.frozen
          have HX := Lib.hid (HOR.out.due j t t.ev ht)
          have HXR := Lib.hid (HRR.out.set (q := ⟨gg, j * 5 + 2, none⟩) (by dsimp only; omega) (by dsimp only; omega) (.int .i64 t.ev))
          have HXG := Lib.hid (gb_set HGR.out (p := ⟨gg, j * 5 + 2, none⟩) (.inr hgg) (.int .i64 t.ev))
          have HL := Lib.hid (show (us.set j { t with du := t.ev }).length = ts.length by rw [List.length_set]; exact HUS.out)
          have hji : (j : Int) < (ts.length : Int) := by omega
          have hj0 : (0 : Int) ≤ (j : Int) := by omega
          clear ht HOR HRR HGR
          go_wp2
          go_roundw
          case rel => exact ⟨j + 1, _, by omega, by go_num, HL.out, HX.out, HXR.out, HXG.out⟩
          case measure => simp [intOf]; omega
        · obtain rfl : j = ts.length := by omega
          go_wp2
          go_ret
          exact ⟨_, us, p' + 1, rfl, by rw [HUS.out]; exact hl, fun _ _ => trivial, by omega, HRR.out, HGR.out, HOR.out⟩
  · have hyd : decide (y > 0) = false := by simp; omega
    go_wp2
    go_ret
    exact ⟨_, ts, p' + 1, rfl, hl, fun _ _ => trivial, by omega, HR3.out, HG3.out, HO3.out⟩

theorem drewL5 {w w1 w2 : World} {v : Value} {ts : List Tk} (h1 : Below w.heap.size w w1) (h2 : w1.grownBy w2 (some w.heap.size)) (ho : Own w2 w1.heap.size v ts) (hl : ts.length ≤ 6) : DrewL1 6 w (.returned v) w2 := by
  obtain ⟨A, c, rfl⟩ := ho.form
  exact ⟨A, c, ts, rfl, hl, own_more ho h1.size, below_of_gb h1 h2 h1.size (Nat.le_refl _)⟩

set_option maxRecDepth 100000 in
theorem dDrawImplicit_any (w : World) (A : Option Addr) (n c : Nat) (f : Nat → Int) (h : Code w w.heap.size A n c f) :
    Calls Try.prog 5 #[.slice A n c] w (DrewL1 6 w) := by
  have H := Lib.hid h
  clear h
  go_enter Try.func5, Try.ntmps5
  go_wp2_with fail
  refine (open_any _ A n c f H.out).mono ?_
  rintro e w1 ⟨rfl, m, hr, hb⟩
  have HR := Lib.hid hr
  have HB := Lib.hid hb
  clear hr hb
  go_wp2_with fail
  refine (l5Set_any _ _ _ _ _ _ _ _ HR.out (by omega)).mono ?_
  rintro e w2 ⟨v, ts, p, rfl, hl, hg, hp, hr, hgb, ho⟩
  have HX : Hid (DrewL1 6 w (.returned v) w2) := drewL5 HB.out hgb ho hl
  clear hr hgb ho hg
  go_wp2_with fail
  go_ret
  exact HX.out
end

section
/- Contract of the program's Implicit. Nothing that was there is written. -/
open Go.RowKit
set_option linter.unusedVariables false

set_option maxHeartbeats 1000000 in
/-- Implicit returns whether a list is valid and all its tasks are due when their next job comes. -/
theorem iImp_is (w : World) (A : Option Addr) (n c : Nat) (ts : List Tk) (h : Tks w w.heap.size A n ts) (hn : n ≤ 1048576) (b : Bool) (hb : impB ts = b) :
    Calls Try.prog 6 #[.slice A n c] w (BoolRes b w) := by
  have H := Lib.hid h
  have HL := Lib.hid h.len
  clear h
  cases hs : setB ts
  · obtain rfl : b = false := by rw [← hb]; exact imp_bad hs
    have HS := Lib.hid hs
    clear hb hs
    go_enter Try.func6, Try.ntmps6
    go_wp2_with fail
    refine (iSetValid_any _ A n c ts H.out hn).mono ?_
    rintro e w1 ⟨rfl, hb1⟩
    rw [HS.out]
    have HB1 := Lib.hid hb1
    clear hb1
    go_wp2
    refine bodyPost_ret (v := .bool false) (by simp [results, Try.results6, go_sem]) rfl ⟨rfl, HB1.out⟩
  have HS := Lib.hid hs
  have HI := Lib.hid hb
  clear hb hs
  go_enter Try.func6, Try.ntmps6
  go_wp2_with fail
  refine (iSetValid_any _ A n c ts H.out hn).mono ?_
  rintro e w1 ⟨rfl, hb1⟩
  rw [HS.out]
  have HB1 := Lib.hid hb1
  clear hb1
  go_wp2
  go_loopw [10] (fun i wr => ∃ k : Nat, k ≤ n ∧ i = .int .i64 k ∧ Hid (∀ u ∈ ts.take k, u.du = u.ev) ∧ Hid (Below w.heap.size w wr)) (fun i _ => n - (intOf i).toNat)
  case atStart => exact ⟨0, Nat.zero_le _, rfl, Lib.hid (by simp), HB1⟩
  case round =>
    obtain ⟨k, hk, rfl, HK, HB⟩ := hrel
    by_cases hlt : k < n
    · obtain ⟨t, ht⟩ : ∃ t, ts[k]? = some t := ⟨ts[k]'(by rw [HL.out]; exact hlt), List.getElem?_eq_getElem _⟩
      obtain ⟨bb, o, rfl, hbl, c0, c1, c2, c3, c4⟩ := (H.out.below HB.out).at_ k t ht
      by_cases hc : t.du = t.ev
      · have HK2 := Lib.hid (imp_step ht hc HK.out)
        clear ht
        obtain ⟨lo, hi, du, ev, cr⟩ := t
        dsimp only at c0 c1 c2 c3 c4 hc
        have d1 : (du != ev) = false := by simp; exact hc
        go_wp2
        go_roundw
        case rel => exact ⟨k + 1, by omega, by go_num, HK2, bl_alloc HB.out _⟩
        case measure => simp [intOf]; omega
      · have hbf : b = false := by rw [← HI.out]; exact imp_not ht hc
        subst hbf
        clear ht
        obtain ⟨lo, hi, du, ev, cr⟩ := t
        dsimp only at c0 c1 c2 c3 c4 hc
        have d1 : (du != ev) = true := by simp; exact hc
        go_wp2
        refine bodyPost_ret (v := .bool false) (by simp [results, Try.results6, go_sem]) rfl ⟨rfl, bl_alloc HB.out _⟩
    · obtain rfl : k = n := by omega
      have hbt : b = true := by
        rw [← HI.out]
        exact imp_of HS.out (by have := HK.out; rwa [List.take_of_length_le (by rw [HL.out]; omega)] at this)
      subst hbt
      go_wp2
      refine bodyPost_ret (v := .bool true) (by simp [results, Try.results6, go_sem]) rfl ⟨rfl, HB.out⟩
end

end Go.Proofs.Ytpngfonnoepmfab
