/- Texts of this seat in one file: DrawsL, Two, Two3, EqSh. -/
import Derived.Test.YthaflbgkhlggkaaDoorM1
import Derived.Test.YthaflbgkhlggkaaDoorM2
namespace Go.Proofs.YthaflbgkhlggkaaDoor

section
/- Contracts of what the reference draws as arguments of LowShare and HighShare; nothing that was there is written. -/
open Go.RowKit

def DrewLB (m : Nat) (w : World) (e : Ending) (w' : World) : Prop :=
  ∃ (A : Option Addr) (c : Nat) (ts : List Tk) (b : Bool), e = .returned (.tuple #[.slice A ts.length c, .bool b]) ∧ ts.length ≤ m ∧ Own w' w.heap.size (.slice A ts.length c) ts ∧ Below w.heap.size w w'

set_option maxRecDepth 100000 in
set_option maxHeartbeats 1000000 in
theorem dDrawHighShare_any (w : World) (A : Option Addr) (n c : Nat) (f : Nat → Int) (h : Code w w.heap.size A n c f) :
    Calls Tryd.prog 21 #[.slice A n c] w (DrewList 6 smallTk w) := by
  have H := Lib.hid h
  clear h
  go_enter Tryd.func21, Tryd.ntmps21
  go_wp2_with fail
  refine (open_any _ A n c f H.out).mono ?_
  rintro e w1 ⟨rfl, m, hr, hb⟩
  have HR := Lib.hid hr
  have HB := Lib.hid hb
  clear hr hb
  go_wp2_with fail
  refine (some_any _ _ _ _ _ _ _ _ HR.out (by omega)).mono ?_
  rintro e w2 ⟨v, ts, p, rfl, hl, hg, hp, hr, hgb, ho⟩
  have HX : Hid (DrewList 6 smallTk w (.returned v) w2) := drewList HB.out hgb ho hl hg
  clear hr hgb ho hg
  go_wp2_with fail
  go_ret
  exact HX.out

set_option maxRecDepth 100000 in
set_option maxHeartbeats 1000000 in
theorem dDrawLowShare_any (w : World) (A : Option Addr) (n c : Nat) (f : Nat → Int) (h : Code w w.heap.size A n c f) :
    Calls Tryd.prog 14 #[.slice A n c] w (DrewLB 6 w) := by
  have H := Lib.hid h
  clear h
  go_enter Tryd.func14, Tryd.ntmps14
  go_wp2_with fail
  refine (open_any _ A n c f H.out).mono ?_
  rintro e w1 ⟨rfl, m, hr, hb⟩
  have hgl := hr.lt
  have HR := Lib.hid hr
  have HB := Lib.hid hb
  clear hr hb
  go_wp2_with fail
  refine (some_any _ _ _ _ _ _ _ _ HR.out (by omega)).mono ?_
  rintro e w2 ⟨v, ts, p, rfl, hl, hg, hp, hr, hgb, ho⟩
  obtain ⟨A2, c2, rfl⟩ := ho.form
  have HR2 := Lib.hid hr
  have HB2 := Lib.hid (below_of_gb HB.out hgb HB.out.size (Nat.le_refl _))
  have HO2 := Lib.hid ho
  clear hr hgb ho hg
  go_wp2_with fail
  refine (pick_any _ _ _ _ _ _ _ p 2 HR2.out (by omega) (by omega)).mono ?_
  rintro e w3 ⟨z, rfl, z0, _, _, hr, hg⟩
  have HB3 := Lib.hid (below_of_gb HB2.out hg HB2.out.size (Nat.le_refl _))
  have HO3 := Lib.hid (HO2.out.kept hg (fun k e => by injection e with e; omega))
  have HX : Hid (Own w3 w.heap.size (.slice A2 ts.length c2) ts) := own_more HO3.out HB.out.size
  clear hr hg HO3
  go_wp2_with fail
  refine bodyPost_ret (v := .tuple #[.slice A2 ts.length c2, .bool (z == 0)]) (by simp [results, Tryd.results14, go_sem]) rfl ⟨A2, c2, ts, (z == 0), rfl, hl, HX.out, HB3.out⟩
end

section
/- Two cells of a block. -/
open Go.RowKit
theorem Blk.two {w : World} {a : Nat} {t : TypeId} {x y : Value} (h : Blk w a t #[x, y]) : w.cell? ⟨a, 0, none⟩ = some x ∧ w.cell? ⟨a, 1, none⟩ = some y := ⟨h.cell 0, h.cell 1⟩
theorem two_alloc1 {w : World} {a : Nat} {x y : Value} (h : w.cell? ⟨a, 0, none⟩ = some x ∧ w.cell? ⟨a, 1, none⟩ = some y) (o : Obj) : (w.alloc o).cell? ⟨a, 0, none⟩ = some x ∧ (w.alloc o).cell? ⟨a, 1, none⟩ = some y :=
  ⟨(World.cell?_alloc_lt w o _ (World.block_lt_of_cell? w _ h.1)).trans h.1, (World.cell?_alloc_lt w o _ (World.block_lt_of_cell? w _ h.2)).trans h.2⟩
theorem two_alloc2 {w : World} {a b : Nat} {x y u v : Value} (h : (w.cell? ⟨a, 0, none⟩ = some x ∧ w.cell? ⟨a, 1, none⟩ = some y) ∧ (w.cell? ⟨b, 0, none⟩ = some u ∧ w.cell? ⟨b, 1, none⟩ = some v)) (o : Obj) :
    ((w.alloc o).cell? ⟨a, 0, none⟩ = some x ∧ (w.alloc o).cell? ⟨a, 1, none⟩ = some y) ∧ ((w.alloc o).cell? ⟨b, 0, none⟩ = some u ∧ (w.alloc o).cell? ⟨b, 1, none⟩ = some v) := ⟨two_alloc1 h.1 o, two_alloc1 h.2 o⟩
theorem Tks.take {w : World} {B : Nat} {A : Option Addr} {n k : Nat} {ts : List Tk} (h : Tks w B A n ts) (hk : k ≤ n) : Tks w B A k (ts.take k) :=
  ⟨by rw [List.length_take, h.len]; omega, fun i t ht => h.at_ i t (by
    rw [List.getElem?_take] at ht
    split at ht
    · exact ht
    · cases ht)⟩
theorem Tks.drop {w : World} {B b o : Nat} {n k m : Nat} {ts : List Tk} (h : Tks w B (some ⟨b, o, none⟩) n ts) (hm : m = o + k * 5) : Tks w B (some ⟨b, m, none⟩) (n - k) (ts.drop k) :=
  ⟨by rw [List.length_drop, h.len], fun i t ht => by
    rw [List.getElem?_drop] at ht
    obtain ⟨b', o', e, hb, hc⟩ := h.at_ _ _ ht
    injection e with e
    injection e with e1 e2
    subst e1 e2 hm
    refine ⟨b, _, rfl, hb, ?_⟩
    rw [show o + k * 5 + i * 5 = o + (k + i) * 5 by omega]
    exact hc⟩
theorem Tks.none_ {w : World} {B : Nat} {A : Option Addr} : Tks w B A 0 [] := ⟨rfl, fun i t ht => by simp at ht⟩
end

section
/- Two cells of a block behind two stores into another block; parts of lists. -/
open Go.RowKit
theorem two_set1 {w : World} {a c : Nat} {x y : Value} (h : w.cell? ⟨a, 0, none⟩ = some x ∧ w.cell? ⟨a, 1, none⟩ = some y) (hc : a ≠ c) (u v : Value) :
    ((w.setCell ⟨c, 0, none⟩ u).setCell ⟨c, 1, none⟩ v).cell? ⟨a, 0, none⟩ = some x ∧ ((w.setCell ⟨c, 0, none⟩ u).setCell ⟨c, 1, none⟩ v).cell? ⟨a, 1, none⟩ = some y := by
  have k : ∀ (X : World) (i j : Nat) (z : Value), (X.setCell ⟨c, j, none⟩ z).cell? ⟨a, i, none⟩ = X.cell? ⟨a, i, none⟩ := fun X i j z =>
    World.cell?_setCell_other X _ _ _ (fun e => by injection e with e1; exact hc e1.symm)
  exact ⟨(k _ _ _ _).trans ((k _ _ _ _).trans h.1), (k _ _ _ _).trans ((k _ _ _ _).trans h.2)⟩
theorem two_set2 {w : World} {a b c : Nat} {x y s t : Value} (h : (w.cell? ⟨a, 0, none⟩ = some x ∧ w.cell? ⟨a, 1, none⟩ = some y) ∧ (w.cell? ⟨b, 0, none⟩ = some s ∧ w.cell? ⟨b, 1, none⟩ = some t)) (ha : a ≠ c) (hb : b ≠ c) (u v : Value) :
    (((w.setCell ⟨c, 0, none⟩ u).setCell ⟨c, 1, none⟩ v).cell? ⟨a, 0, none⟩ = some x ∧ ((w.setCell ⟨c, 0, none⟩ u).setCell ⟨c, 1, none⟩ v).cell? ⟨a, 1, none⟩ = some y) ∧ (((w.setCell ⟨c, 0, none⟩ u).setCell ⟨c, 1, none⟩ v).cell? ⟨b, 0, none⟩ = some s ∧ ((w.setCell ⟨c, 0, none⟩ u).setCell ⟨c, 1, none⟩ v).cell? ⟨b, 1, none⟩ = some t) :=
  ⟨two_set1 h.1 ha u v, two_set1 h.2 hb u v⟩
end

section
/- The comparison of shares that the exact laws make. -/
open Go.RowKit
set_option linter.unusedVariables false

set_option maxHeartbeats 400000 in
theorem eqShare_any (w : World) (n d : Int) :
    Calls Tryd.prog 30 #[.agg #[.int .i64 n, .int .i64 d], .agg #[.int .i64 n, .int .i64 d]] w (BoolRes true w) := by
  have HB := Lib.hid (Below.refl w.heap.size w)
  go_enter Tryd.func30, Tryd.ntmps30
  go_wp2
  (try (go_quiet (fail); go_wp2))
  go_ret
  exact ⟨rfl, by repeat (first | exact HB.out | refine bl_drewN ?_ _ | refine Below.drew ?_ | refine bl_alloc ?_ _)⟩
end

end Go.Proofs.YthaflbgkhlggkaaDoor
