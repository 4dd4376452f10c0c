/- Contracts of what the reference draws as a list of tasks. -/
import Derived.Test.YtjondedkgkohfaaOpen
import Derived.Test.YtjondedkgkohfaaSet
import Derived.Maps.AppendAt
namespace Go.Proofs.Ytjondedkgkohfaa
open Go.RowKit

theorem info_task : (Try.prog.info? 73).map (fun i => (i.zero, i.size, i.bytes)) = some (some (.agg #[.int .i64 0, .int .i64 0, .int .i64 0, .int .i64 0, .bool false]), 5, 40) := by kernel_rfl

/-- The slice value v is the call's own (a block from B on) and holds the tasks ts. -/
def Own (w : World) (B : Nat) (v : Value) (ts : List Tk) : Prop := w.ownsRow B 73 5 v ts.length (ts.flatMap Tk.cells)

theorem cells_length (ts : List Tk) : (ts.flatMap Tk.cells).length = ts.length * 5 := by
  induction ts with
  | nil => rfl
  | cons t ts ih => simp [List.flatMap_cons, Tk.cells, ih]; omega

theorem cells_one (ts : List Tk) : ∀ u ∈ ts.flatMap Tk.cells, u.oneCell' = true := by
  intro u hu
  simp only [List.mem_flatMap, Tk.cells] at hu
  obtain ⟨t, _, h⟩ := hu
  simp at h
  rcases h with rfl | rfl | rfl | rfl | rfl <;> rfl

theorem cells_get (ts : List Tk) : ∀ (i : Nat) (t : Tk), ts[i]? = some t → ∀ (j : Nat), j < 5 → (ts.flatMap Tk.cells)[i * 5 + j]? = t.cells[j]? := by
  induction ts with
  | nil => intro i t h; simp at h
  | cons a ts ih =>
    intro i t h j hj
    cases i with
    | zero =>
      simp at h
      subst h
      rw [List.flatMap_cons, List.getElem?_append_left (by simp [Tk.cells]; omega)]
      simp
    | succ i =>
      rw [List.flatMap_cons, List.getElem?_append_right (by simp [Tk.cells]; omega)]
      have e : (i + 1) * 5 + j - a.cells.length = i * 5 + j := by simp [Tk.cells]; omega
      rw [e]
      exact ih i t (by simpa using h) j hj

/-- An owned row reads as its tasks. -/
theorem Own.reads {w : World} {B : Nat} {A : Option Addr} {n c : Nat} {ts : List Tk} (h : Own w B (.slice A n c) ts) : n = ts.length ∧ Tks w w.heap.size A n ts := by
  have hn : n = ts.length := by
    rcases h.2 with ⟨e, h0⟩ | ⟨g, cap, cur, e, _⟩
    · injection e; omega
    · injection e
  refine ⟨hn, hn.symm, fun i t ht => ?_⟩
  have hi : i < ts.length := (List.getElem?_eq_some_iff.1 ht).1
  rcases h.2 with ⟨e, h0⟩ | ⟨g, cap, cur, e, _, hg, _⟩
  · omega
  · injection e with e1 e2 e3
    subst e1
    have hlt : g < w.heap.size := by
      rcases Nat.lt_or_ge g w.heap.size with hlt | hge
      · exact hlt
      · rw [Array.getElem?_eq_none hge] at hg; cases hg
    have hc := h.cells (g := g) rfl
    have at_ : ∀ j u, j < 5 → t.cells[j]? = some u → w.cell? ⟨g, i * 5 + j, none⟩ = some u := by
      intro j u hj hu
      have := hc (i * 5 + j) u (by rw [cells_get ts i t ht j hj]; exact hu)
      have ea : (⟨g, 0, none⟩ : Addr).add (i * 5 + j) = ⟨g, i * 5 + j, none⟩ := by unfold Addr.add; split <;> simp_all
      rwa [ea] at this
    refine ⟨g, 0, rfl, hlt, ?_⟩
    rw [Nat.zero_add]
    exact ⟨at_ 0 _ (by omega) rfl, at_ 1 _ (by omega) rfl, at_ 2 _ (by omega) rfl, at_ 3 _ (by omega) rfl, at_ 4 _ (by omega) rfl⟩

theorem Own.kept {w w' : World} {B : Nat} {v : Value} {ts : List Tk} {row : Option Nat} (h : Own w B v ts) (hg : w.grownBy w' row) (hr : ∀ k, row = some k → k < B) : Own w' B v ts := by
  refine World.ownsRow.kept h hg ?_
  rcases he : v.ownBlock with _ | k
  · exact .inl rfl
  · right
    intro e
    have := (World.ownsRow.lt h k he).1
    have := hr k e.symm
    omega

theorem Own.alloc {w : World} {B : Nat} {v : Value} {ts : List Tk} (h : Own w B v ts) (o : Obj) : Own (w.alloc o) B v ts := World.ownsRow.alloc h o

theorem Own.form {w : World} {B : Nat} {v : Value} {ts : List Tk} (h : Own w B v ts) : ∃ A c, v = .slice A ts.length c := by
  rcases h.2 with ⟨e, h0⟩ | ⟨g, cap, cur, e, _⟩
  · exact ⟨none, 0, by rw [e, h0]⟩
  · exact ⟨_, cap, e⟩

theorem cell_new5 (w : World) (t : Tk) (ty : TypeId) : ∀ j u, t.cells[j]? = some u → (w.alloc (.cells #[.int .i64 t.lo, .int .i64 t.hi, .int .i64 t.du, .int .i64 t.ev, .bool t.cr] ty)).cell? ((⟨w.heap.size, 0, none⟩ : Addr).add j) = some u := by
  intro j u hj
  have ea : (⟨w.heap.size, 0, none⟩ : Addr).add j = ⟨w.heap.size, j, none⟩ := by unfold Addr.add; split <;> simp_all
  rw [ea, (Blk.new w ty _).cell j, ← hj]
  simp [Tk.cells]

theorem cell_new5_at (w : World) (t : Tk) (ty : TypeId) (g : Nat) (hg : g = w.heap.size) : ∀ j u, t.cells[j]? = some u → (w.alloc (.cells #[.int .i64 t.lo, .int .i64 t.hi, .int .i64 t.du, .int .i64 t.ev, .bool t.cr] ty)).cell? ((⟨g, 0, none⟩ : Addr).add j) = some u := by
  subst hg; exact cell_new5 w t ty

theorem Own.snoc {w : World} {B : Nat} {v : Value} {ts : List Tk} {t : Tk} (h : w.ownsRow B 73 5 v (ts.length + 1) (ts.flatMap Tk.cells ++ t.cells)) : Own w B v (ts ++ [t]) := by
  unfold Own
  rw [List.flatMap_append, List.length_append]
  simpa using h

def goodTk (t : Tk) : Prop := goodT t.lo t.hi t.du t.ev t.cr
def smallTk (t : Tk) : Prop := smallT t.lo t.hi t.du t.ev t.cr

/-- What a draw of a list of tasks leaves. -/
def LsOut (B g : Nat) (A : Option Addr) (n c : Nat) (f : Nat → Int) (p d m : Nat) (good : Tk → Prop) (w : World) (e : Ending) (w' : World) : Prop :=
  ∃ (v : Value) (ts : List Tk) (p' : Nat), e = .returned v ∧ ts.length ≤ m ∧ (∀ t ∈ ts, good t) ∧ p' ≤ p + d ∧ Rd w' B g A n c f p' ∧ w.grownBy w' (some g) ∧ Own w' w.heap.size v ts

set_option maxRecDepth 100000 in
set_option maxHeartbeats 1000000 in
theorem set_any (w : World) (B g : Nat) (A : Option Addr) (n c : Nat) (f : Nat → Int) (p : Nat) (hr : Rd w B g A n c f p) (hp : p ≤ 10000) :
    Calls Try.prog 85 #[.pointer (some ⟨g, 0, none⟩)] w (LsOut B g A n c f p 40 5 goodTk w) := by
  obtain ⟨i0, hi, hz0, hz1, hz2⟩ := info_parts info_task
  have HR := Lib.hid hr
  have hgl := hr.lt
  have hBg := hr.ge
  clear hr
  go_enter Try.func85, Try.ntmps85
  go_wp2_with fail
  refine (num_any _ B g A n c f p _ 6 0 5 ((HR.out.alloc _).alloc _) (by omega) (by omega) (by omega) (by simp; omega) ?_).mono ?_
  · exact lit_cells_at _ _ _ _ _ _ (by simp) (fun i hi => by rcases (by omega : i = 0 ∨ i = 1 ∨ i = 2 ∨ i = 3 ∨ i = 4 ∨ i = 5) with rfl | rfl | rfl | rfl | rfl | rfl <;> exact ⟨_, rfl, by decide, by decide⟩)
  rintro e w1 ⟨m, rfl, hm0, hm1, hr1, hg1⟩
  obtain ⟨m, rfl⟩ := Int.eq_ofNat_of_zero_le hm0
  have hm : m ≤ 5 := by omega
  have own1 : Own w1 w.heap.size (.slice (some ⟨w.heap.size, 0, none⟩) 0 0) [] := by
    have b0 : Blk w1 w.heap.size 73 #[] := ((Blk.new w 73 _).alloc _).grown hg1 (by intro e; injection e; omega)
    exact ⟨rfl, .inr ⟨w.heap.size, 0, #[], rfl, Nat.le_refl _, b0, Nat.le_refl _, Nat.zero_le _, rfl, rfl⟩⟩
  have hgw1 : w.grownBy w1 (some g) := gb_trans (gb_alloc (gb_alloc (World.grownBy.refl w _) _) _) hg1 (fun x e => .inl (by injection e with e; exact e.symm))
  have HR1 := Lib.hid hr1
  have HG1 := Lib.hid hgw1
  have HO1 := Lib.hid own1
  clear hr1 hg1 hgw1 own1
  go_wp2
  go_loopw [3, 4] (fun v i wr => ∃ (j : Nat) (ts : List Tk) (p' : Nat), i = .int .i64 j ∧ ts.length + j ≤ 5 ∧ p' ≤ p + 2 + ts.length * 6 ∧ Hid (∀ t ∈ ts, goodTk t) ∧ Rd wr B g A n c f p' ∧ w.grownBy wr (some g) ∧ Own wr w.heap.size v ts) (fun _ i _ => (intOf i).toNat)
  case atStart => exact ⟨m, [], p + 1, rfl, by simpa using hm, by omega, fun t ht => by simp at ht, HR1.out, HG1.out, HO1.out⟩
  case round =>
    obtain ⟨j, ts, p', rfl, hj, hp', hgood, hr2, hg2, ho2⟩ := hrel
    have HR2 := Lib.hid hr2
    have HG2 := Lib.hid hg2
    have HO2 := Lib.hid ho2
    clear hr2 hg2 ho2
    by_cases h0 : 0 < j
    · go_wp2_with fail
      refine (task_any _ B g A n c f p' HR2.out (by omega)).mono ?_
      rintro e w3 ⟨lo, hi', du, ev, cr, p3, rfl, hg, hp3, hr3, hgb3⟩
      have HO3 := Lib.hid (HO2.out.kept hgb3 (fun k e => by injection e with e; omega))
      have HG3 := Lib.hid (gb_trans HG2.out hgb3 (fun x e => .inl (by injection e with e; exact e.symm)))
      have HR3 := Lib.hid hr3
      have hsz3 : w.heap.size ≤ w3.heap.size := HG3.out.size
      clear hr3 hgb3
      have b1 : ts.length + 1 ≤ maxLen := by unfold maxLen; omega
      have b2 : (ts.length + 1) * 40 ≤ 140737488355328 := by omega
      go_wp2_with (at_builtin; refine wpList_append_own _ rfl (.tmp 13) (.tmp 16) 23 rfl w.heap.size 73 i0 _ 5 40 Try.underlying23 hi hz0 hz1 hz2 rfl (by decide) _ ts.length (ts.flatMap Tk.cells) rfl (HO3.out.alloc _) ⟨w3.heap.size, 0, none⟩ 1 1 (Tk.cells ⟨lo, hi', du, ev, cr⟩) rfl rfl (cell_new5 _ ⟨lo, hi', du, ev, cr⟩ _) (by intro u hu; exact cells_one [⟨lo, hi', du, ev, cr⟩] u (by simpa using hu)) b1 b2 (by simp; omega) ?_; intro v' w4 hown' hgrow _)
      have HO4 := Lib.hid (Own.snoc hown')
      have HG4 := Lib.hid (gb_trans (gb_alloc HG3.out _) hgrow (fun x e => .inr ((World.ownsRow.lt HO3.out x e).1)))
      have HR4 := Lib.hid ((HR3.out.alloc _).grown hgrow (fun k e => by have := (World.ownsRow.lt HO3.out k e).1; exact ⟨by omega, by omega⟩))
      have hgood' : Hid (∀ t ∈ ts ++ [⟨lo, hi', du, ev, cr⟩], goodTk t) := fun t ht => by
        rcases List.mem_append.1 ht with h | h
        · exact hgood.out t h
        · simp at h; subst h; exact hg
      clear hown' hgrow hg
      go_wp2
      go_roundw
      case rel => exact ⟨j - 1, ts ++ [⟨lo, hi', du, ev, cr⟩], p3, by go_num, by simp; omega, by simp; omega, hgood', HR4.out, HG4.out, HO4.out⟩
      case measure => simp [intOf]; omega
    · obtain rfl : j = 0 := by omega
      go_wp2
      go_ret
      exact ⟨_, ts, p', rfl, by omega, hgood.out, by omega, HR2.out, HG2.out, HO2.out⟩

end Go.Proofs.Ytjondedkgkohfaa
