/- Texts of this seat in one file: SDc, SDa, SDb, QHa, JbH, Insert, QIns, JbP, SDw, Dm, ExJ, ToTask, ExList, Same, ExMark, MarkOwn. -/
import Derived.Test.YtjondedkgkohfaaSDj
import Derived.Test.YtjondedkgkohfaaQOrd
import Derived.RegionTactic
import Derived.ChangeAlike
import Derived.BigRegion
import Derived.Test.YtjondedkgkohfaaJbD
import Derived.Test.YtjondedkgkohfaaList
import Derived.Laws.CopyRow
import Derived.Laws.Externs
import Derived.Lib.Overlaps
import Derived.Deep.RegionLaw
import Derived.Test.YtjondedkgkohfaaJb
import Derived.Test.YtjondedkgkohfaaSPu
import Derived.Lib.AppendZerosOnto
import Derived.Test.YtjondedkgkohfaaZm
import Derived.LoopTactic
import Derived.Deep.RegionHeld3
import Derived.Test.YtjondedkgkohfaaBase
import Derived.Test.YtjondedkgkohfaaNum
import Derived.Test.YtjondedkgkohfaaOwn
import Derived.Test.YtjondedkgkohfaaSome
import Derived.Deep.QuietTactic
import Derived.BigQuiet
namespace Go.Proofs.Ytjondedkgkohfaa

section
/- Contract of the reference's draw of tasks and jobs, sometimes ones that are not valid; nothing that was there is written. -/
open Go.RowKit
set_option linter.unusedVariables false

/-- Tasks and jobs of the call's own. -/
def DrewLJ (w : World) (e : Ending) (w' : World) : Prop :=
  ∃ (A : Option Addr) (c : Nat) (ts : List Tk) (g2 c2 : Nat) (js : List Jb), e = .returned (.tuple #[.slice A ts.length c, .slice (some ⟨g2, 0, none⟩) js.length c2]) ∧ ts.length ≤ 5 ∧ (∀ t ∈ ts, smallTk t) ∧ js.length ≤ 61 ∧ (∀ j ∈ js, smallJ j) ∧ Own w' w.heap.size (.slice A ts.length c) ts ∧ OwnJ w' w.heap.size (.slice (some ⟨g2, 0, none⟩) js.length c2) js ∧ Below w.heap.size w w'
theorem OwnJ.cells_ {w : World} {B h n c : Nat} {js : List Jb} (ho : OwnJ w B (.slice (some ⟨h, 0, none⟩) n c) js) : B ≤ h ∧ h < w.heap.size := by
  rcases ho.2 with ⟨e, _⟩ | ⟨g, cap, cur, e, hb, hh, _⟩
  · cases e
  · injection e with e1 e2 e3
    injection e1 with e1
    injection e1 with e1
    subst e1
    exact ⟨hb, (Array.getElem?_eq_some_iff.1 hh).1⟩
theorem Own.kept_row {w w' : World} {B : Nat} {v : Value} {ts : List Tk} {row : Option Nat} (h : Own w B v ts) (hg : w.grownBy w' row) (hr : ∀ k, v.ownBlock = some k → row = some k → False) : Own w' B v ts := by
  refine World.ownsRow.kept h hg ?_
  rcases he : v.ownBlock with _ | k
  · exact .inl rfl
  · right
    intro e
    exact hr k he e.symm
theorem jset_cells (js : List Jb) : ∀ (k : Nat) (j : Jb) (z : Int), js[k]? = some j →
    (js.flatMap Jb.cells).set (k * 3 + 2) (.int .i64 z) = (js.set k ⟨j.ta, j.tm, z⟩).flatMap Jb.cells := by
  induction js with
  | nil => intro k j z h; simp at h
  | cons a js ih =>
    intro k j z h
    cases k with
    | zero => simp at h; subst h; simp [List.flatMap_cons, Jb.cells]
    | succ k =>
      have e0 : (k + 1) * 3 = k * 3 + 3 := by omega
      simp only [List.flatMap_cons, Jb.cells, List.set_cons_succ, e0, List.cons_append, List.nil_append, Nat.add_right_comm]
      rw [← ih k j z (by simpa using h)]
theorem OwnJ.put {w : World} {B h n c : Nat} {js : List Jb} (ho : OwnJ w B (.slice (some ⟨h, 0, none⟩) n c) js) (k : Nat) (j : Jb) (z : Int) (hk : js[k]? = some j) :
    OwnJ (w.setCell ⟨h, k * 3 + 2, none⟩ (.int .i64 z)) B (.slice (some ⟨h, 0, none⟩) n c) (js.set k ⟨j.ta, j.tm, z⟩) := by
  have hn := ho.reads.1
  subst hn
  have h1 := (World.ownsRow.stored ho (k * 3 + 2) (.int .i64 z)).1
  unfold OwnJ
  rw [List.length_set, ← jset_cells js k j z hk]
  exact h1
end

section
/- Contracts of what the reference draws over tasks and jobs; nothing that was there is written. -/
open Go.RowKit
set_option linter.unusedVariables false

theorem Code.bel {w w' : World} {A : Option Addr} {n c : Nat} {f : Nat → Int} (h : Code w w.heap.size A n c f) (hb : Below w.heap.size w w') : Code w' w'.heap.size A n c f :=
  ⟨h.le, h.max, fun i hi => by
    obtain ⟨b, o, e, hlt, hc⟩ := h.at_ i hi
    refine ⟨b, o, e, Nat.lt_of_lt_of_le hlt hb.size, ?_⟩
    have e2 := hb.block b hlt
    rw [← hc]
    simp only [World.cell?, e2], h.byte⟩
theorem OwnJ.kept_row {w w' : World} {B : Nat} {v : Value} {ts : List Jb} {row : Option Nat} (h : OwnJ w B v ts) (hg : w.grownBy w' row) (hr : ∀ k, v.ownBlock = some k → row = some k → False) : OwnJ w' B v ts := by
  refine World.ownsRow.kept h hg ?_
  rcases he : v.ownBlock with _ | k
  · exact .inl rfl
  · right
    intro e
    exact hr k he e.symm
def DrewJ1 (w : World) (e : Ending) (w' : World) : Prop :=
  ∃ (g2 c2 : Nat) (js : List Jb), e = .returned (.slice (some ⟨g2, 0, none⟩) js.length c2) ∧ js.length ≤ 61 ∧ (∀ j ∈ js, smallJ j) ∧ OwnJ w' w.heap.size (.slice (some ⟨g2, 0, none⟩) js.length c2) js ∧ Below w.heap.size w w'
def DrewJI (w : World) (e : Ending) (w' : World) : Prop :=
  ∃ (g2 c2 : Nat) (js : List Jb) (z : Int), e = .returned (.tuple #[.slice (some ⟨g2, 0, none⟩) js.length c2, .int .i64 z]) ∧ js.length ≤ 61 ∧ (∀ j ∈ js, smallJ j) ∧ 0 ≤ z ∧ z ≤ 5 ∧ OwnJ w' w.heap.size (.slice (some ⟨g2, 0, none⟩) js.length c2) js ∧ Below w.heap.size w w'
end

section
/- Contracts of what the reference draws over tasks, jobs and a job; nothing that was there is written. -/
open Go.RowKit
set_option linter.unusedVariables false

theorem Own.setb {w : World} {B : Nat} {v : Value} {ts : List Tk} (h : Own w B v ts) {a : Addr} (ha : a.block < B) (u : Value) : Own (w.setCell a u) B v ts := ownsRow_setCell_below h ha u
theorem OwnJ.setb {w : World} {B : Nat} {v : Value} {ts : List Jb} (h : OwnJ w B v ts) {a : Addr} (ha : a.block < B) (u : Value) : OwnJ (w.setCell a u) B v ts := ownsRow_setCell_below h ha u
def DrewLJJ (w : World) (e : Ending) (w' : World) : Prop :=
  ∃ (A : Option Addr) (c : Nat) (ts : List Tk) (g2 c2 : Nat) (js : List Jb) (j : Jb), e = .returned (.tuple #[.slice A ts.length c, .slice (some ⟨g2, 0, none⟩) js.length c2, j.val]) ∧ ts.length ≤ 5 ∧ (∀ t ∈ ts, smallTk t) ∧ js.length ≤ 61 ∧ (∀ j ∈ js, smallJ j) ∧ smallJ j ∧ Own w' w.heap.size (.slice A ts.length c) ts ∧ OwnJ w' w.heap.size (.slice (some ⟨g2, 0, none⟩) js.length c2) js ∧ Below w.heap.size w w'
def DrewLJ1 (w : World) (e : Ending) (w' : World) : Prop :=
  ∃ (A : Option Addr) (c : Nat) (ts : List Tk) (j : Jb), e = .returned (.tuple #[.slice A ts.length c, j.val]) ∧ ts.length ≤ 5 ∧ (∀ t ∈ ts, smallTk t) ∧ smallJ j ∧ Own w' w.heap.size (.slice A ts.length c) ts ∧ Below w.heap.size w w'
end

section
/- The swap in the program's heap of jobs, cell by cell. -/
open Go.RowKit
set_option linter.unusedVariables false

/-- Three numbers written one after another. -/
def put3 (w : World) (a : Addr) (x y z : Int) : World := ((w.setCell a (.int .i64 x)).setCell ⟨a.block, a.off + 1, none⟩ (.int .i64 y)).setCell ⟨a.block, a.off + 2, none⟩ (.int .i64 z)
/-- No result; the world is W. -/
def SwRes (W : World) (e : Ending) (w' : World) : Prop := e = .returned (.tuple #[]) ∧ w' = W
end

section
/- A heap of jobs, as plain data: swapping, up, down, the least one. No program in this text. -/
open Go.RowKit
set_option linter.unusedVariables false

instance instDecJb : DecidableEq Jb := fun a b => decidable_of_iff (a.ta = b.ta ∧ a.tm = b.tm ∧ a.ne = b.ne) ⟨fun h => Jb.eq_of h.1 h.2.1 h.2.2, fun h => by subst h; exact ⟨rfl, rfl, rfl⟩⟩
def leJ (a b : Jb) : Prop := befB b a = false
theorem leJ_refl (a : Jb) : leJ a a := bef_irr a
theorem leJ_iff {a b : Jb} : leJ a b ↔ a.tm < b.tm ∨ (a.tm = b.tm ∧ a.ta ≤ b.ta) := by
  unfold leJ
  rw [← Bool.not_eq_true, befB_iff]
  omega
theorem leJ_trans {a b c : Jb} (h1 : leJ a b) (h2 : leJ b c) : leJ a c := by
  rw [leJ_iff] at *; omega
theorem leJ_of_bef {a b : Jb} (h : befB a b = true) : leJ a b := bef_asym h
theorem bef_of_le {a b : Jb} (h : leJ a b) (hn : ¬ a.ta = b.ta) : befB a b = true := by
  rw [leJ_iff] at h
  rw [befB_iff]; omega
/-- Two elements exchanged. -/
def swapL (hs : List Jb) (a b : Nat) (x y : Jb) : List Jb := (hs.set a y).set b x
theorem swap_len (hs : List Jb) (a b : Nat) (x y : Jb) : (swapL hs a b x y).length = hs.length := by unfold swapL; simp
theorem swap_at {hs : List Jb} {a b : Nat} {x y : Jb} (ha : a < hs.length) (hb : b < hs.length) (hab : a ≠ b) (i : Nat) :
    (swapL hs a b x y)[i]? = if i = a then some y else if i = b then some x else hs[i]? := by
  unfold swapL
  rw [List.getElem?_set]
  by_cases h1 : b = i
  · subst h1
    rw [if_pos rfl, if_pos (by simpa using hb), if_neg (fun e => hab e.symm), if_pos rfl]
  · rw [if_neg h1, List.getElem?_set]
    by_cases h2 : a = i
    · subst h2
      rw [if_pos rfl, if_pos rfl, if_pos ha]
    · rw [if_neg h2, if_neg (fun e => h2 e.symm), if_neg (fun e => h1 e.symm)]
theorem swap_perm {hs : List Jb} {a b : Nat} {x y : Jb} (ha : hs[a]? = some x) (hb : hs[b]? = some y) : (swapL hs a b x y).Perm hs := by
  obtain ⟨hal, hax⟩ := List.getElem?_eq_some_iff.1 ha
  obtain ⟨hbl, hbx⟩ := List.getElem?_eq_some_iff.1 hb
  rw [List.perm_iff_count]
  intro z
  unfold swapL
  have hx : ∀ i (hi : i < hs.length), hs[i] = z → 0 < hs.count z := fun i hi e => List.count_pos_iff.2 (by rw [← e]; exact List.getElem_mem _)
  rw [List.count_set (by simpa using hbl), List.count_set hal]
  rw [List.getElem_set]
  by_cases hab : a = b
  · subst hab
    have : x = y := by rw [← hax, ← hbx]
    subst this
    simp [hax]
    by_cases hz : x = z
    · have := hx a hal (hax.trans hz); simp [hz]; omega
    · simp [hz]
  · simp only [hab, if_false, hax, hbx, beq_iff_eq]
    by_cases hzx : x = z
    · have h1 := hx a hal (hax.trans hzx)
      by_cases hzy : y = z
      · simp [hzx, hzy]; omega
      · simp [hzx, hzy]; omega
    · by_cases hzy : y = z
      · have h1 := hx b hbl (hbx.trans hzy)
        simp [hzx, hzy]
      · simp [hzx, hzy]
/-- No element goes before the one above it. -/
def heapP (hs : List Jb) : Prop := ∀ i x p, 0 < i → hs[i]? = some x → hs[(i - 1) / 2]? = some p → leJ p x
def UpInv (hs : List Jb) (k : Nat) (x : Jb) : Prop :=
  hs[k]? = some x ∧ (∀ i y p, 0 < i → i ≠ k → hs[i]? = some y → hs[(i - 1) / 2]? = some p → leJ p y) ∧
    (∀ c y p, 0 < c → (c - 1) / 2 = k → 0 < k → hs[c]? = some y → hs[(k - 1) / 2]? = some p → leJ p y)
theorem up_start {hs : List Jb} {x : Jb} (h : heapP hs) : UpInv (hs ++ [x]) hs.length x := by
  refine ⟨by simp, fun i y p hi hk hy hp => ?_, fun c y p hc hck hk hy hp => ?_⟩
  · have hil : i < hs.length := by
      have := (List.getElem?_eq_some_iff.1 hy).1
      simp at this; omega
    rw [List.getElem?_append_left hil] at hy
    rw [List.getElem?_append_left (by omega)] at hp
    exact h i y p hi hy hp
  · have := (List.getElem?_eq_some_iff.1 hy).1
    simp at this; omega
theorem up_done {hs : List Jb} {k : Nat} {x : Jb} (h : UpInv hs k x) (hd : k = 0 ∨ ∀ p, hs[(k - 1) / 2]? = some p → befB x p = false) : heapP hs := by
  intro i y p hi hy hp
  by_cases hk : i = k
  · subst hk
    rcases hd with hd | hd
    · omega
    · rw [h.1] at hy
      injection hy with hy
      subst hy
      exact hd p hp
  · exact h.2.1 i y p hi hk hy hp
theorem up_step {hs : List Jb} {k : Nat} {x p : Jb} (h : UpInv hs k x) (hk : 0 < k) (hp : hs[(k - 1) / 2]? = some p) (hb : befB x p = true) : UpInv (swapL hs k ((k - 1) / 2) x p) ((k - 1) / 2) x := by
  have hkl := (List.getElem?_eq_some_iff.1 h.1).1
  have hpl := (List.getElem?_eq_some_iff.1 hp).1
  have hne : k ≠ (k - 1) / 2 := by omega
  refine ⟨by rw [swap_at hkl hpl hne, if_neg (fun e => hne e.symm), if_pos rfl], fun i y q hi hik hy hq => ?_, fun c y q hc hck hk0 hy hq => ?_⟩
  · rw [swap_at hkl hpl hne] at hy hq
    rw [if_neg hik] at hy
    by_cases h1 : i = k
    · subst h1
      rw [if_pos rfl] at hy
      rw [if_neg (by omega), if_pos rfl] at hq
      injection hy with hy; injection hq with hq
      subst hy hq
      exact leJ_of_bef hb
    · rw [if_neg h1] at hy
      by_cases h2 : (i - 1) / 2 = k
      · rw [if_pos h2] at hq
        injection hq with hq
        subst hq
        exact h.2.2 i y p hi h2 hk hy hp
      · rw [if_neg h2] at hq
        by_cases h3 : (i - 1) / 2 = (k - 1) / 2
        · rw [if_pos h3] at hq
          injection hq with hq
          subst hq
          exact leJ_trans (leJ_of_bef hb) (h.2.1 i y p hi h1 hy (by rw [h3]; exact hp))
        · rw [if_neg h3] at hq
          exact h.2.1 i y q hi h1 hy hq
  · rw [swap_at hkl hpl hne] at hy hq
    rw [if_neg (by omega), if_neg (by omega)] at hq
    have hpq : leJ q p := h.2.1 ((k - 1) / 2) p q hk0 (by omega) hp hq
    by_cases h1 : c = k
    · subst h1
      rw [if_pos rfl] at hy
      injection hy with hy
      subst hy
      exact hpq
    · rw [if_neg h1, if_neg (by omega)] at hy
      exact leJ_trans hpq (h.2.1 c y p hc h1 hy (by rw [hck]; exact hp))
def DownInv (hs : List Jb) (k : Nat) : Prop :=
  (∀ i y p, 0 < i → (i - 1) / 2 ≠ k → hs[i]? = some y → hs[(i - 1) / 2]? = some p → leJ p y) ∧
    (∀ c y p, 0 < c → (c - 1) / 2 = k → 0 < k → hs[c]? = some y → hs[(k - 1) / 2]? = some p → leJ p y)
theorem down_done {hs : List Jb} {k : Nat} {x : Jb} (h : DownInv hs k) (hx : hs[k]? = some x) (h1 : ∀ y, hs[2 * k + 1]? = some y → leJ x y) (h2 : ∀ y, hs[2 * k + 2]? = some y → leJ x y) : heapP hs := by
  intro i y p hi hy hp
  by_cases hk : (i - 1) / 2 = k
  · rw [hk, hx] at hp
    injection hp with hp
    subst hp
    rcases (by omega : i = 2 * k + 1 ∨ i = 2 * k + 2) with e | e
    · exact h1 y (by rw [← e]; exact hy)
    · exact h2 y (by rw [← e]; exact hy)
  · exact h.1 i y p hi hk hy hp
theorem down_step {hs : List Jb} {k f : Nat} {x m : Jb} (h : DownInv hs k) (hx : hs[k]? = some x) (hf : f = 2 * k + 1 ∨ f = 2 * k + 2) (hm : hs[f]? = some m) (h0 : leJ m x) (h1 : ∀ y, hs[2 * k + 1]? = some y → leJ m y) (h2 : ∀ y, hs[2 * k + 2]? = some y → leJ m y) : DownInv (swapL hs k f x m) f := by
  have hkl := (List.getElem?_eq_some_iff.1 hx).1
  have hfl := (List.getElem?_eq_some_iff.1 hm).1
  have hne : k ≠ f := by omega
  refine ⟨fun i y p hi hik hy hp => ?_, fun c y p hc hck hf0 hy hp => ?_⟩
  · rw [swap_at hkl hfl hne] at hy hp
    rw [if_neg hik] at hp
    by_cases e1 : (i - 1) / 2 = k
    · rw [e1] at hp
      simp only [if_true] at hp
      injection hp with hp
      subst hp
      rw [if_neg (by omega)] at hy
      by_cases e2 : i = f
      · rw [if_pos e2] at hy
        injection hy with hy
        subst hy
        exact h0
      · rw [if_neg e2] at hy
        rcases (by omega : i = 2 * k + 1 ∨ i = 2 * k + 2) with e | e
        · exact h1 y (by rw [← e]; exact hy)
        · exact h2 y (by rw [← e]; exact hy)
    · rw [if_neg e1] at hp
      by_cases e2 : i = k
      · subst e2
        rw [if_pos rfl] at hy
        injection hy with hy
        subst hy
        exact h.2 f m p (by omega) (by omega) hi hm hp
      · rw [if_neg e2, if_neg (by omega)] at hy
        exact h.1 i y p hi e1 hy hp
  · rw [swap_at hkl hfl hne] at hy hp
    rw [if_neg (by omega), if_neg (by omega)] at hy
    rw [if_pos (by omega)] at hp
    injection hp with hp
    subst hp
    exact h.1 c y m hc (by omega) hy (by rw [hck]; exact hm)
theorem heap_min {hs : List Jb} {x : Jb} (h : heapP hs) (hx : hs[0]? = some x) : ∀ y ∈ hs, leJ x y := by
  have : ∀ (n i : Nat) (y : Jb), i ≤ n → hs[i]? = some y → leJ x y := by
    intro n
    induction n with
    | zero =>
      intro i y hi hy
      obtain rfl : i = 0 := by omega
      rw [hx] at hy
      injection hy with hy
      subst hy
      exact leJ_refl _
    | succ n ih =>
      intro i y hi hy
      by_cases h0 : i = 0
      · exact ih i y (by omega) hy
      · have hl := (List.getElem?_eq_some_iff.1 hy).1
        obtain ⟨p, hp⟩ : ∃ p, hs[(i - 1) / 2]? = some p := ⟨hs[(i - 1) / 2]'(by omega), List.getElem?_eq_getElem _⟩
        exact leJ_trans (ih ((i - 1) / 2) p (by omega) hp) (h i y p (by omega) hy hp)
  intro y hy
  obtain ⟨i, hi⟩ := List.getElem?_of_mem hy
  exact this i i y (Nat.le_refl _) hi
/-- The first one and the last one exchanged, the last one taken off: in order but for the first one. -/
theorem pop_start {hs : List Jb} {n : Nat} {x y : Jb} (h : heapP hs) (hn : hs.length = n + 1) (hx : hs[0]? = some x) (hy : hs[n]? = some y) : DownInv ((swapL hs 0 n x y).take n) 0 := by
  refine ⟨fun i z p hi hik hz hp => ?_, fun c z p hc hck hk => by omega⟩
  have hil : i < n := by
    have := (List.getElem?_eq_some_iff.1 hz).1
    rw [List.length_take] at this; omega
  rw [List.getElem?_take_of_lt hil] at hz
  rw [List.getElem?_take_of_lt (by omega)] at hp
  rw [swap_at (by omega) (by omega) (by omega)] at hz hp
  rw [if_neg (by omega), if_neg (by omega)] at hz hp
  exact h i z p hi hz hp
theorem take_swap_perm {hs : List Jb} {n : Nat} {x y : Jb} (hn : hs.length = n + 1) (hx : hs[0]? = some x) (hy : hs[n]? = some y) : (x :: (swapL hs 0 n x y).take n).Perm hs := by
  have h1 := swap_perm hx hy
  have h2 : swapL hs 0 n x y = (swapL hs 0 n x y).take n ++ [x] := by
    have hl : (swapL hs 0 n x y).length = n + 1 := by rw [swap_len, hn]
    have hlast : (swapL hs 0 n x y)[n]? = some x := by
      unfold swapL
      rw [List.getElem?_set, if_pos rfl, if_pos (by simp; omega)]
    have := List.take_add_one (l := swapL hs 0 n x y) (i := n)
    rw [hlast, List.take_of_length_le (by omega)] at this
    exact this
  rw [h2] at h1
  exact (List.perm_append_comm (l₁ := [x]) (l₂ := (swapL hs 0 n x y).take n)).trans h1
end

section
/- Contract of slices.Insert at a list of tasks with room for one more: the task comes at its place, the row stays where it is. -/
open Go.RowKit

/-- copy at elements of k cells, into a row that is known whole. -/
theorem run_copy_k {P : Program} (w : World) (dT sT ty elem : TypeId) (k g o dLen dCap : Nat) (a : Addr) (sLen sCap m : Nat) (cur : Array Value) (t : TypeId) (cs : List Value)
    (hu : P.underlying dT = some (.slice elem)) (hs : (P.info? elem).map (·.size) = some k)
    (hg : w.heap[g]? = some (.cells cur t (0, 0))) (hm : m = Nat.min sLen dLen) (hn : cs.length = m * k)
    (hsrc : ∀ j v, cs[j]? = some v → w.cell? (a.add j) = some v) (hfit : o + cs.length ≤ cur.size) (h1 : ∀ v ∈ cs, v.oneCell' = true) :
    (Builtin.copy_ #[dT, sT] ty #[.slice (some ⟨g, o, none⟩) dLen dCap, .slice (some a) sLen sCap]).run P w =
      .ok (goInt m) (w.setRow g (cur.toList.take o ++ cs ++ cur.toList.drop (o + cs.length)).toArray) := by
  have hl := run_loadCells_list (P := P) w a cs hsrc
  have hst := run_storeCells_at P g o t cs 0 cur w hg (by simpa using hfit) h1
  cases hq : P.info? elem with
  | none => simp [hq] at hs
  | some i =>
    have hi : i.size = k := by simpa [hq] using hs
    rw [hn] at hl
    simp [Builtin.copy_, run_underlying hu, Builtin.lenOf, Builtin.firstCells, sizeOf, typeInfo, hq, hi, ← hm, hl, hst]

theorem wpList_copy_run {P : Program} (w : World) {ops : Array Oper} {rest : List Oper} {o : Oper} {a : Act} {Q : Exit → Act → World → Prop} (hgd : o.guard = none) (d s : Operand) (t t' : TypeId)
    (ho : o.op = .call { callee := .builtin .copy, args := #[d, s], argTypes := #[t, t'] }) (v u : Value) (hd : a.eval d = v) (hs : a.eval s = u) {v' : Value} {w' : World}
    (hr : (Builtin.copy_ #[t, t'] o.type #[v, u]).run P w = .ok v' w') (h : wpList P ops Q rest (a.put o.dst v') w') : wpList P ops Q (o :: rest) a w :=
  wpList_plain hgd fun _ hK => by
    unfold Oper.wp execOp
    simp only [ho, resolve, invoke, builtin, Sem.run_bind, Sem.run_pure, Result.andThen_ok, List.map_toArray, List.map_cons, List.map_nil, hd, hs, hr]
    exact hK _ _ h

theorem step_copy_run {P : Program} {ops : Array Oper} {o : Oper} {a : Act} {w : World} {K : Act → World → Prop} {Q : Exit → Act → World → Prop} {E : Prop}
    (hg : o.guard = none) (d x : Operand) (dT sT : TypeId) (hop : o.op = Op.call { callee := Callee.builtin Builtin.copy, args := #[d, x], argTypes := #[dT, sT] })
    (v u : Value) (hd : a.eval d = v) (hx : a.eval x = u) {v' : Value} {w' : World} (hr : (Builtin.copy_ #[dT, sT] o.type #[v, u]).run P w = .ok v' w') (hK : K (a.put o.dst v') w') :
    if Region.wanted o (yielded ops a.tmps) = true then Oper.wp P o a w K Q else E := by
  have hw : Region.wanted o (yielded ops a.tmps) = true := by simp [Region.wanted, hg]
  rw [if_pos hw]
  unfold Oper.wp
  simp [execOp, hop, resolve, invoke, builtin, hd, hx, hr, Result.andThen]
  exact hK

def InsRes (g N B : Nat) (us : List Tk) (w : World) (e : Ending) (w' : World) : Prop :=
  e = .returned (.slice (some ⟨g, 0, none⟩) us.length N) ∧ Own w' B (.slice (some ⟨g, 0, none⟩) us.length N) us ∧ w.grownBy w' (some g)

theorem own_block {w : World} {B g n N : Nat} {ts : List Tk} (h : Own w B (.slice (some ⟨g, 0, none⟩) n N) ts) :
    n = ts.length ∧ B ≤ g ∧ ∃ cur, w.heap[g]? = some (.cells cur 73 (0, 0)) ∧ n ≤ N ∧ N ≤ maxLen ∧ cur.size = N * 5 ∧ cur.toList.take (n * 5) = ts.flatMap Tk.cells := by
  have hn := h.reads.1
  rcases h.2 with ⟨e, h0⟩ | ⟨g', cap, cur, e, hb, hg, h1, h2, h3, h4⟩
  · cases e
  · injection e with e1 e2 e3
    injection e1 with e1
    injection e1 with e1
    subst e1 e3
    exact ⟨hn, hb, cur, hg, by omega, h2, h3, by rw [hn]; exact h4⟩

theorem own_of_block {w : World} {B g N : Nat} {ts : List Tk} {cur : Array Value} (hb : B ≤ g) (hg : w.heap[g]? = some (.cells cur 73 (0, 0))) (hn : ts.length ≤ N) (hN : N ≤ maxLen) (hs : cur.size = N * 5)
    (ht : cur.toList.take (ts.length * 5) = ts.flatMap Tk.cells) : Own w B (.slice (some ⟨g, 0, none⟩) ts.length N) ts :=
  ⟨cells_length ts, .inr ⟨g, N, cur, rfl, hb, hg, hn, hN, hs, ht⟩⟩

theorem gb_setRow (w : World) (g : Nat) (cs : Array Value) : w.grownBy (w.setRow g cs) (some g) :=
  ⟨rfl, rfl, rfl, by simp, fun k _ hne => setRow_other w g k cs (fun e => hne (by rw [e]))⟩

theorem drop_cells (ts : List Tk) : ∀ i, (ts.flatMap Tk.cells).drop (i * 5) = (ts.drop i).flatMap Tk.cells := by
  induction ts with
  | nil => intro i; simp
  | cons t ts ih =>
    intro i
    cases i with
    | zero => simp
    | succ i =>
      have e : (i + 1) * 5 = t.cells.length + i * 5 := by simp [Tk.cells]; omega
      rw [List.flatMap_cons, e, List.drop_append, List.drop_succ_cons]
      simp [ih]
theorem take_cells (ts : List Tk) : ∀ i, (ts.flatMap Tk.cells).take (i * 5) = (ts.take i).flatMap Tk.cells := by
  induction ts with
  | nil => intro i; simp
  | cons t ts ih =>
    intro i
    cases i with
    | zero => simp
    | succ i =>
      have e : (i + 1) * 5 = t.cells.length + i * 5 := by simp [Tk.cells]; omega
      rw [List.flatMap_cons, e, List.take_append, List.take_succ_cons]
      simp [ih]
      exact List.take_of_length_le (by omega)

/-- The row behind the two copies. -/
theorem ins_row {L X Y : List Value} {a b n : Nat} (hX : L.take n = X) (hn : n ≤ L.length) (ha : a ≤ n) (hY : Y.length = b) (hfit : n + b ≤ L.length) :
    ((((L.take (a + b) ++ X.drop a ++ L.drop (a + b + (X.drop a).length)).take a) ++ Y ++ ((L.take (a + b) ++ X.drop a ++ L.drop (a + b + (X.drop a).length)).drop (a + Y.length))).take (n + b)) = X.take a ++ Y ++ X.drop a := by
  have hXl : X.length = n := by rw [← hX, List.length_take]; omega
  have hdl : (X.drop a).length = n - a := by rw [List.length_drop, hXl]
  have e1 : (L.take (a + b) ++ X.drop a ++ L.drop (a + b + (X.drop a).length)).take a = X.take a := by
    rw [List.append_assoc, List.take_append_of_le_length (by rw [List.length_take]; omega), List.take_take, ← hX, List.take_take]
    congr 1
    omega
  have e2 : (L.take (a + b) ++ X.drop a ++ L.drop (a + b + (X.drop a).length)).drop (a + Y.length) = X.drop a ++ L.drop (a + b + (X.drop a).length) := by
    rw [hY, List.append_assoc, List.drop_append_of_le_length (by rw [List.length_take]; omega), List.drop_eq_nil_of_le (by rw [List.length_take]; omega), List.nil_append]
  rw [e1, e2, ← List.append_assoc, List.take_append_of_le_length (by simp only [List.length_append, List.length_take, hdl, hXl]; omega), List.take_of_length_le (by simp only [List.length_append, List.length_take, hdl, hXl]; omega)]

theorem info_size : (Try.prog.info? 73).map (·.size) = some 5 := by kernel_rfl
theorem sizeOf_task (w : World) : (Go.sizeOf 73).run Try.prog w = .ok 5 w := by
  obtain ⟨i0, hi, hz0, hz1, hz2⟩ := info_parts info_task
  simp [Go.sizeOf, typeInfo, hi, hz1]

theorem own_row {w : World} {B n : Nat} {v : Value} {ts : List Tk} (h : Own w B v ts) (hn : n = ts.length) : w.ownsRow B 73 5 v n (ts.flatMap Tk.cells) := by subst hn; exact h
end

section
/- Contracts of slices.Insert and slices.Clone at jobs. -/
open Go.RowKit
set_option linter.unusedVariables false

def JInsRes (g N B : Nat) (us : List Jb) (w : World) (e : Ending) (w' : World) : Prop :=
  e = .returned (.slice (some ⟨g, 0, none⟩) us.length N) ∧ OwnJ w' B (.slice (some ⟨g, 0, none⟩) us.length N) us ∧ w.grownBy w' (some g)

theorem jown_block {w : World} {B g n N : Nat} {ts : List Jb} (h : OwnJ w B (.slice (some ⟨g, 0, none⟩) n N) ts) :
    n = ts.length ∧ B ≤ g ∧ ∃ cur, w.heap[g]? = some (.cells cur 35 (0, 0)) ∧ n ≤ N ∧ N ≤ maxLen ∧ cur.size = N * 3 ∧ cur.toList.take (n * 3) = ts.flatMap Jb.cells := by
  have hn := h.reads.1
  rcases h.2 with ⟨e, h0⟩ | ⟨g', cap, cur, e, hb, hg, h1, h2, h3, h4⟩
  · cases e
  · injection e with e1 e2 e3
    injection e1 with e1
    injection e1 with e1
    subst e1 e3
    exact ⟨hn, hb, cur, hg, by omega, h2, h3, by rw [hn]; exact h4⟩

theorem jown_of_block {w : World} {B g N : Nat} {ts : List Jb} {cur : Array Value} (hb : B ≤ g) (hg : w.heap[g]? = some (.cells cur 35 (0, 0))) (hn : ts.length ≤ N) (hN : N ≤ maxLen) (hs : cur.size = N * 3)
    (ht : cur.toList.take (ts.length * 3) = ts.flatMap Jb.cells) : OwnJ w B (.slice (some ⟨g, 0, none⟩) ts.length N) ts :=
  ⟨jcells_length ts, .inr ⟨g, N, cur, rfl, hb, hg, hn, hN, hs, ht⟩⟩

theorem jdrop_cells (ts : List Jb) : ∀ i, (ts.flatMap Jb.cells).drop (i * 3) = (ts.drop i).flatMap Jb.cells := by
  induction ts with
  | nil => intro i; simp
  | cons t ts ih =>
    intro i
    cases i with
    | zero => simp
    | succ i =>
      have e : (i + 1) * 3 = t.cells.length + i * 3 := by simp [Jb.cells]; omega
      rw [List.flatMap_cons, e, List.drop_append, List.drop_succ_cons]
      simp [ih]
theorem jtake_cells (ts : List Jb) : ∀ i, (ts.flatMap Jb.cells).take (i * 3) = (ts.take i).flatMap Jb.cells := by
  induction ts with
  | nil => intro i; simp
  | cons t ts ih =>
    intro i
    cases i with
    | zero => simp
    | succ i =>
      have e : (i + 1) * 3 = t.cells.length + i * 3 := by simp [Jb.cells]; omega
      rw [List.flatMap_cons, e, List.take_append, List.take_succ_cons]
      simp [ih]
      exact List.take_of_length_le (by omega)

theorem jinfo_size : (Try.prog.info? 35).map (·.size) = some 3 := by kernel_rfl
theorem sizeOf_job (w : World) : (Go.sizeOf 35).run Try.prog w = .ok 3 w := by
  obtain ⟨i0, hi, hz0, hz1, hz2⟩ := info_parts info_job
  simp [Go.sizeOf, typeInfo, hi, hz1]

theorem jown_row {w : World} {B n : Nat} {v : Value} {ts : List Jb} (h : OwnJ w B v ts) (hn : n = ts.length) : w.ownsRow B 35 3 v n (ts.flatMap Jb.cells) := by subst hn; exact h

theorem OwnJ.drew {w : World} {B : Nat} {v : Value} {js : List Jb} (h : OwnJ w B v js) : OwnJ w.drew B v js := h.below (Below.drew (Below.refl _ _))
theorem OwnJ.drewN {w : World} {B : Nat} {v : Value} {js : List Jb} (h : OwnJ w B v js) (k : Nat) : OwnJ (w.drewN k) B v js := h.below (bl_drewN (Below.refl _ _) k)
theorem gb_drewJ {a b : World} {row : Option Nat} (h : a.grownBy b row) : a.grownBy b.drew row := ⟨h.os, h.tape, h.output, h.size, h.block⟩
theorem gb_drewNJ {a b : World} {row : Option Nat} (h : a.grownBy b row) (n : Nat) : a.grownBy (b.drewN n) row := ⟨h.os, h.tape, h.output, h.size, h.block⟩
theorem gb_belowJ {a w : World} (h : Below a.heap.size a w) (row : Option Nat) : a.grownBy w row := ⟨h.os, h.tape, h.output, h.size, fun i hi _ => h.block i hi⟩
/-- A list of jobs of the call's own (from block B on) as the result; only the row written was there. -/
def JIns (js : List Jb) (B : Nat) (row : Option Nat) (w : World) (e : Ending) (w' : World) : Prop :=
  ∃ (A : Option Addr) (c : Nat), e = .returned (.slice A js.length c) ∧ OwnJ w' B (.slice A js.length c) js ∧ w.grownBy w' row
theorem OwnJ.none_ {w : World} {B n c : Nat} {js : List Jb} (h : OwnJ w B (.slice none n c) js) : n = 0 ∧ c = 0 ∧ js = [] := by
  rcases h.2 with ⟨e, h0⟩ | ⟨g, cap, cur, e, _⟩
  · injection e with e1 e2 e3
    exact ⟨e2, e3, List.eq_nil_of_length_eq_zero h0⟩
  · injection e with e1; cases e1
theorem OwnJ.some_form {w : World} {B n c : Nat} {a : Addr} {js : List Jb} (h : OwnJ w B (.slice (some a) n c) js) : ∃ g, a = ⟨g, 0, none⟩ := by
  rcases h.2 with ⟨e, h0⟩ | ⟨g, cap, cur, e, _⟩
  · injection e with e1; cases e1
  · injection e with e1; injection e1 with e1; exact ⟨g, e1⟩
theorem OwnJ.len_ {w : World} {B n c : Nat} {A : Option Addr} {js : List Jb} (h : OwnJ w B (.slice A n c) js) : n = js.length := h.reads.1
theorem jnews (w : World) (vb : Nat) (t : Jb) (hv : Blk w vb 35 #[.int .i64 t.ta, .int .i64 t.tm, .int .i64 t.ne]) : ∀ j u, t.cells[j]? = some u → w.cell? ((⟨vb, 0, none⟩ : Addr).add j) = some u := by
  intro j u hj
  have ea : (⟨vb, 0, none⟩ : Addr).add j = ⟨vb, j, none⟩ := by unfold Addr.add; split <;> simp_all
  rw [ea, hv.cell j, ← hj]
  simp [Jb.cells]
theorem jzero_size : (Try.prog.info? 35).map (fun i => (i.zero, i.size, i.bytes)) = some (some (.agg #[.int .i64 0, .int .i64 0, .int .i64 0]), 3, 24) := info_job
/-- The row behind the two copies, where a new one was made. -/
theorem ins_row_new {X Y Z O : List Value} {a b n : Nat} (hX : X.length = n) (ha : a ≤ n) (hY : Y.length = b) (hO : O = X.take a) (hZ : n - a + b ≤ Z.length) :
    (((((O ++ Z).take a ++ Y ++ (O ++ Z).drop (a + Y.length)).take (a + b)) ++ X.drop a ++ (((O ++ Z).take a ++ Y ++ (O ++ Z).drop (a + Y.length)).drop (a + b + (X.drop a).length))).take (n + b)) = X.take a ++ Y ++ X.drop a := by
  subst hO
  have htl : (X.take a).length = a := by rw [List.length_take]; omega
  have hdl : (X.drop a).length = n - a := by rw [List.length_drop, hX]
  have e1 : (X.take a ++ Z).take a = X.take a := by rw [List.take_append_of_le_length (by omega), List.take_of_length_le (by omega)]
  rw [e1]
  have e2 : ((X.take a ++ Y ++ (X.take a ++ Z).drop (a + Y.length)).take (a + b)) = X.take a ++ Y := by
    rw [List.take_append_of_le_length (by simp only [List.length_append]; omega), List.take_of_length_le (by simp only [List.length_append]; omega)]
  rw [e2, List.take_append_of_le_length (by simp only [List.length_append]; omega), List.take_of_length_le (by simp only [List.length_append]; omega)]
end

section
/- A job of a list of the call's own is written. -/
open Go.RowKit
set_option linter.unusedVariables false

theorem OwnJ.setFar {w : World} {B : Nat} {v : Value} {ts : List Jb} (h : OwnJ w B v ts) {a : Addr} (ha : a.block < B) (u : Value) : OwnJ (w.setCell a u) B v ts :=
  ⟨h.1, by
    rcases h.2 with h2 | ⟨g, cap, cur, e, hb, hg, rest⟩
    · exact .inl h2
    · exact .inr ⟨g, cap, cur, e, hb, (Below.heap_setCell w a u g (by omega)).trans hg, rest⟩⟩
theorem jset3 : ∀ (ts : List Jb) (k : Nat) (j : Jb), k < ts.length → (((ts.flatMap Jb.cells).set (k * 3) (.int .i64 j.ta)).set (k * 3 + 1) (.int .i64 j.tm)).set (k * 3 + 2) (.int .i64 j.ne) = (ts.set k j).flatMap Jb.cells
  | [], k, j, h => by simp at h
  | t :: ts, 0, j, h => by simp [Jb.cells]
  | t :: ts, k + 1, j, h => by
    have ih := jset3 ts k j (by simpa using h)
    rw [List.set_cons_succ, List.flatMap_cons, List.flatMap_cons, ← ih]
    have e0 : (k + 1) * 3 = t.cells.length + k * 3 := by simp [Jb.cells]; omega
    rw [e0]
    simp only [Nat.add_assoc]
    rw [List.set_append_right _ _ (by omega), List.set_append_right _ _ (by omega), List.set_append_right _ _ (by omega)]
    simp
theorem OwnJ.put3 {w : World} {B g n c : Nat} {js : List Jb} (ho : OwnJ w B (.slice (some ⟨g, 0, none⟩) n c) js) (k : Nat) (j : Jb) (hk : k < js.length) :
    OwnJ (put3 w ⟨g, k * 3, none⟩ j.ta j.tm j.ne) B (.slice (some ⟨g, 0, none⟩) n c) (js.set k j) := by
  have hn := ho.reads.1
  subst hn
  have h1 := (World.ownsRow.stored ho (k * 3) (.int .i64 j.ta)).1
  have h2 := (World.ownsRow.stored h1 (k * 3 + 1) (.int .i64 j.tm)).1
  have h3 := (World.ownsRow.stored h2 (k * 3 + 2) (.int .i64 j.ne)).1
  rw [jset3 js k j hk] at h3
  unfold OwnJ
  rw [List.length_set]
  unfold Go.Proofs.Ytjondedkgkohfaa.put3
  simpa [addr_add3] using h3
theorem gb_put3 (w : World) (g o : Nat) (x y z : Int) : w.grownBy (put3 w ⟨g, o, none⟩ x y z) (some g) :=
  ⟨rfl, rfl, rfl, by simp [put3, World.setCell], fun k _ hne => by
    have hk : ∀ (W : World) (o : Nat) (u : Value), (W.setCell ⟨g, o, none⟩ u).heap[k]? = W.heap[k]? := fun W o u => Below.heap_setCell W ⟨g, o, none⟩ u k (fun e => hne (by rw [e]))
    unfold put3
    rw [hk, hk, hk]⟩
end

section
/- Contract of what the reference draws as arguments of WorstJobs; nothing that was there is written. -/
open Go.RowKit
set_option linter.unusedVariables false

def DrewLIB (m : Nat) (w : World) (e : Ending) (w' : World) : Prop :=
  ∃ (A : Option Addr) (c : Nat) (ts : List Tk) (z : Int) (b : Bool), e = .returned (.tuple #[.slice A ts.length c, .int .i64 z, .bool b]) ∧ ts.length ≤ m ∧ (∀ t ∈ ts, smallTk t) ∧ -1 ≤ z ∧ z ≤ 201 ∧ Own w' w.heap.size (.slice A ts.length c) ts ∧ Below w.heap.size w w'
end

section
/- dmJobs at equal lists, and what the walks of chapter 6's laws share. -/
open Go.RowKit
set_option linter.unusedVariables false

theorem tks_to6 {w1 W : World} {A : Option Addr} {n : Nat} {ts : List Tk} (h : Tks w1 w1.heap.size A n ts) (hb : Below w1.heap.size w1 W) : Tks W W.heap.size A n ts := (h.below hb).more hb.size
theorem jbs_to {w1 W : World} {A : Option Addr} {n : Nat} {js : List Jb} (h : Jbs w1 w1.heap.size A n js) (hb : Below w1.heap.size w1 W) : Jbs W W.heap.size A n js := (h.below hb).more hb.size
theorem zs_to {w1 W : World} {A : Option Addr} {n : Nat} {zs : List Int} (h : Zs w1 w1.heap.size A n zs) (hb : Below w1.heap.size w1 W) : Zs W W.heap.size A n zs := (h.below hb).more hb.size
theorem ownJ_get {w : World} {B c g n : Nat} {js : List Jb} (h : OwnJ w B (.slice (some ⟨g, 0, none⟩) n c) js) {k : Nat} {j : Jb} (hj : js[k]? = some j) :
    B ≤ g ∧ g < w.heap.size ∧ w.cell? ⟨g, k * 3, none⟩ = some (.int .i64 j.ta) ∧ w.cell? ⟨g, k * 3 + 1, none⟩ = some (.int .i64 j.tm) ∧ w.cell? ⟨g, k * 3 + 2, none⟩ = some (.int .i64 j.ne) := by
  obtain ⟨h1, h2⟩ := World.ownsRow.lt h g rfl
  obtain ⟨_, c0, c1, c2⟩ := h.reads.2.get hj
  simp only [Nat.zero_add] at c0 c1 c2
  exact ⟨h1, h2, c0, c1, c2⟩
end

section
/- Contracts of what the exact laws do with jobs and lists of jobs: count, copy, compare, mark, and look at the marks again. -/
open Go.RowKit
set_option linter.unusedVariables false

set_option maxHeartbeats 1000000 in
theorem toJob_any (ta tm ne : Int) (w : World) :
    Calls Try.prog 70 #[.agg #[.int .i64 ta, .int .i64 tm, .int .i64 ne]] w fun e w' => e = .returned (.agg #[.int .i64 ta, .int .i64 tm, .int .i64 ne]) ∧ Below w.heap.size w w' := by
  go_enter Try.func70, Try.ntmps70
  go_wp2
  refine bodyPost_ret (v := .agg #[.int .i64 ta, .int .i64 tm, .int .i64 ne]) (by simp [results, Try.results70, go_sem]) rfl ⟨rfl, ?_⟩
  repeat (first | exact Below.refl _ _ | refine bl_alloc ?_ _ | refine bl_set ?_ (by dsimp only; omega) _)
theorem eqJob_any (w : World) (ta tm ne : Int) :
    Calls Try.prog 72 #[.agg #[.int .i64 ta, .int .i64 tm, .int .i64 ne], .agg #[.int .i64 ta, .int .i64 tm, .int .i64 ne]] w fun e w' => e = .returned (.bool true) ∧ Below w.heap.size w w' := by
  go_enter Try.func72, Try.ntmps72
  go_wp2
  go_ret
  exact ⟨rfl, bl_alloc (bl_alloc (Below.refl _ _) _) _⟩
set_option maxHeartbeats 400000 in
theorem szJ_any (w : World) (A : Option Addr) (n c : Nat) (hn : n ≤ 9223372036854775807) (l : Int) (h0 : 0 ≤ l) (h1 : l ≤ 1048576) :
    Calls Try.prog 43 #[.slice A n c, .int .i64 l] w fun e w' => e = .returned (.int .i64 (if l < (n : Int) then -1 else l - (n : Int))) ∧ w = w' := by
  have kw : IntKind.i64.wrap (l - (n : Int)) = l - (n : Int) := IntWalk.i64_in _ (by omega)
  by_cases h : l < (n : Int)
  · have d1 : l - (n : Int) < 0 := by omega
    rw [if_pos h]
    go_enter Try.func43, Try.ntmps43
    go_wp2
    go_ret
    exact ⟨rfl, rfl⟩
  · have d1 : ¬ l - (n : Int) < 0 := by omega
    rw [if_neg h]
    go_enter Try.func43, Try.ntmps43
    go_wp2
    go_ret
    exact ⟨rfl, rfl⟩
theorem OwnJ.frozen {w : World} {B g n c : Nat} {ts : List Jb} (h : OwnJ w B (.slice (some ⟨g, 0, none⟩) n c) ts) : ∀ i, w.frozen? ⟨g, i, none⟩ = false := by
  obtain ⟨_, _, cur, hcur, _⟩ := jown_block h
  exact fun i => Blk.frozen (w := w) (g := g) (cs := cur) hcur i
def zeroJb : Jb := ⟨0, 0, 0⟩
theorem jzero_cells (n : Nat) : (madeCells (Value.agg #[.int .i64 0, .int .i64 0, .int .i64 0]).cells (n * 3)).toList = (List.replicate n zeroJb).flatMap Jb.cells := by
  have hl : ∀ m : Nat, (List.replicate m zeroJb).flatMap Jb.cells = (List.range (m * 3)).map fun j => Value.int .i64 0 := by
    intro m
    induction m with
    | zero => rfl
    | succ m ih =>
      rw [List.replicate_succ', List.flatMap_append, ih]
      have e : (m + 1) * 3 = m * 3 + 1 + 1 + 1 := by omega
      rw [e, List.range_succ, List.range_succ, List.range_succ]
      simp only [List.map_append, List.map_cons, List.map_nil, List.append_assoc, List.flatMap_cons, List.flatMap_nil, List.append_nil]
      rfl
  rw [hl]
  have hz : (Value.agg #[.int .i64 0, .int .i64 0, .int .i64 0]).cells = #[.int .i64 0, .int .i64 0, .int .i64 0] := rfl
  unfold madeCells
  rw [hz, Array.toList_map, Array.toList_range]
  refine List.map_congr_left fun j _ => ?_
  show (#[Value.int .i64 0, .int .i64 0, .int .i64 0])[j % 3]! = _
  rcases (by omega : j % 3 = 0 ∨ j % 3 = 1 ∨ j % 3 = 2) with h | h | h <;> rw [h] <;> rfl
theorem jtake_put {ts : List Jb} {k : Nat} {t : Jb} (h : ts[k]? = some t) : (ts.take k ++ List.replicate (ts.length - k) zeroJb).set k t = ts.take (k + 1) ++ List.replicate (ts.length - (k + 1)) zeroJb := by
  obtain ⟨hk, rfl⟩ := List.getElem?_eq_some_iff.1 h
  rw [List.take_succ_eq_append_getElem hk]
  have e : ts.length - k = (ts.length - (k + 1)) + 1 := by omega
  rw [e, List.replicate_succ, List.set_append_right _ _ (by rw [List.length_take]; omega)]
  have e2 : k - (ts.take k).length = 0 := by rw [List.length_take]; omega
  rw [e2, List.set_cons_zero, List.append_assoc]
  rfl
/-- The copy: its address is known. -/
def JsCopy (js : List Jb) (w : World) (e : Ending) (w' : World) : Prop :=
  ∃ g : Nat, e = .returned (.slice (some ⟨g, 0, none⟩) js.length js.length) ∧ OwnJ w' w.heap.size (.slice (some ⟨g, 0, none⟩) js.length js.length) js ∧ Below w.heap.size w w'
set_option maxHeartbeats 1000000 in
theorem toJobS_any (w : World) (A : Option Addr) (n c : Nat) (ts : List Jb) (h : Jbs w w.heap.size A n ts) (hn : n ≤ 1048576) :
    Calls Try.prog 45 #[.slice A n c] w (JsCopy ts w) := by
  obtain ⟨i0, hi, hz0, hz1, hz2⟩ := info_parts info_job
  have H := Lib.hid h
  have HL := Lib.hid h.len
  clear h
  go_enter Try.func45, Try.ntmps45
  go_wp2_with (at_make; refine wpList_make_full _ rfl _ _ 24 rfl w.heap.size 35 i0 _ 3 Try.underlying24 hi hz0 hz1 .i64 .i64 _ _ n rfl rfl rfl rfl (by rw [hz2]; omega) (by unfold maxLen; omega) (Nat.le_refl _) ?_; intro w2 hown0 hgrow0)
  have HO0 : Hid (OwnJ w2 w.heap.size (.slice (some ⟨w.heap.size, 0, none⟩) n n) (List.replicate n zeroJb)) := by
    show w2.ownsRow _ _ _ _ _ _
    rw [← jzero_cells, List.length_replicate]
    exact hown0
  have HB2 := Lib.hid ((Below.refl _ w).grown hgrow0 (Nat.le_refl _) (fun k e => by cases e))
  clear hown0 hgrow0
  go_loopw [4] (fun i wr => ∃ k : Nat, k ≤ n ∧ i = .int .i64 k ∧ Hid (OwnJ wr w.heap.size (.slice (some ⟨w.heap.size, 0, none⟩) n n) (ts.take k ++ List.replicate (ts.length - k) zeroJb)) ∧ Hid (Below w.heap.size w wr)) (fun i _ => n - (intOf i).toNat)
  case atStart => exact ⟨0, Nat.zero_le _, rfl, by rw [HL.out]; exact HO0, HB2⟩
  case round =>
    obtain ⟨k, hk, rfl, HO, HB⟩ := hrel
    by_cases hlt : k < n
    · obtain ⟨t, ht⟩ : ∃ t, ts[k]? = some t := ⟨ts[k]'(by rw [HL.out]; exact hlt), List.getElem?_eq_getElem _⟩
      obtain ⟨b, o, rfl, hbl, c0, c1, c2⟩ := (H.out.below HB.out).at_ k t ht
      have HP := Lib.hid (jtake_put ht)
      obtain ⟨ta, tm, ne⟩ := t
      dsimp only at c0 c1 c2
      clear ht
      go_wp2_with fail
      refine (toJob_any ta tm ne wr).mono ?_
      rintro e w3 ⟨rfl, hb3⟩
      clear c0 c1 c2
      have HB3 := Lib.hid (bl_trans HB.out hb3)
      have HO3 := Lib.hid (HO.out.below hb3)
      clear hb3
      have hlen : (ts.take k ++ List.replicate (ts.length - k) zeroJb).length = n := by simp [HL.out]; omega
      obtain ⟨t', ht'⟩ : ∃ t', (ts.take k ++ List.replicate (ts.length - k) zeroJb)[k]? = some t' := ⟨_, List.getElem?_eq_getElem (by omega)⟩
      have hfz := OwnJ.frozen HO3.out
      obtain ⟨hbl', _, c0, c1, c2⟩ := ownJ_get HO3.out ht'
      have HLN := Lib.hid hlen
      have HPUT := Lib.hid (OwnJ.put3 HO3.out k ⟨ta, tm, ne⟩ (by rw [HLN.out]; exact hlt))
      clear ht' hlen
      go_wp2
      go_roundw
      case rel => exact ⟨k + 1, by omega, by go_num, Lib.hid (by rw [← HP.out]; exact HPUT.out), Lib.hid (by repeat (first | exact HB3.out | refine bl_set ?_ (by dsimp only; omega) _))⟩
      case measure => simp [intOf]; omega
    · obtain rfl : k = n := by omega
      have hall : ts.take k ++ List.replicate (ts.length - k) zeroJb = ts := by rw [HL.out, List.take_of_length_le (by rw [HL.out]; omega)]; simp
      rw [hall] at HO
      go_wp2
      go_ret
      exact ⟨w.heap.size, by rw [HL.out]; rfl, by rw [HL.out]; exact HO.out, HB.out⟩
set_option maxHeartbeats 2000000 in
theorem eqJobS_any (w : World) (A A' : Option Addr) (n c c' : Nat) (js : List Jb) (h : Jbs w w.heap.size A n js) (h' : Jbs w w.heap.size A' n js) (hn : n ≤ 1048576) :
    Calls Try.prog 48 #[.slice A n c, .slice A' n c'] w fun e w' => e = .returned (.bool true) ∧ Below w.heap.size w w' := by
  have H := Lib.hid h
  have H' := Lib.hid h'
  have HL := Lib.hid h.len
  clear h h'
  go_enter Try.func48, Try.ntmps48
  go_wp2
  go_loopw [5] (fun i wr => ∃ k : Nat, k ≤ n ∧ i = .int .i64 k ∧ Hid (Below w.heap.size w wr)) (fun i _ => n - (intOf i).toNat)
  case atStart => exact ⟨0, Nat.zero_le _, rfl, Lib.hid (Below.refl _ _)⟩
  case round =>
    obtain ⟨k, hk, rfl, HB⟩ := hrel
    have hsz := HB.out.size
    by_cases hlt : k < n
    · obtain ⟨j, hj⟩ : ∃ j, js[k]? = some j := ⟨js[k]'(by rw [HL.out]; exact hlt), List.getElem?_eq_getElem _⟩
      obtain ⟨b, o, rfl, hbl, c0, c1, c2⟩ := (H.out.below HB.out).at_ k j hj
      obtain ⟨b', o', rfl, hbl', d0, d1, d2⟩ := (H'.out.below HB.out).at_ k j hj
      obtain ⟨ta, tm, ne⟩ := j
      dsimp only at c0 c1 c2 d0 d1 d2
      clear hj
      have i1 : (0 : Int) ≤ (k : Int) := by omega
      have i2 : (k : Int) < (n : Int) := by omega
      go_wp2
      go_region_held3 (fun W => W.cell? ⟨b, o + k * 3, none⟩ = some (.int .i64 ta) ∧ W.cell? ⟨b, o + k * 3 + 1, none⟩ = some (.int .i64 tm) ∧ W.cell? ⟨b, o + k * 3 + 2, none⟩ = some (.int .i64 ne) ∧ W.cell? ⟨b', o' + k * 3, none⟩ = some (.int .i64 ta) ∧ W.cell? ⟨b', o' + k * 3 + 1, none⟩ = some (.int .i64 tm) ∧ W.cell? ⟨b', o' + k * 3 + 2, none⟩ = some (.int .i64 ne)) (first | exact ⟨c0, c1, c2, d0, d1, d2⟩ | assumption | (simp [go_sem, *]; done))
        ((go_at_call 72; refine (eqJob_any _ ta tm ne).mono ?_; rintro e w' ⟨rfl, hb⟩; have HB3 := Lib.hid (show Below w.heap.size w w' from bl_trans (by repeat (first | with_reducible exact HB.out | with_reducible refine Below.drew ?_ | with_reducible refine bl_drewN ?_ _)) hb); have c0' := (hb.cell (p := ⟨b, o + k * 3, none⟩) (Nat.lt_of_lt_of_le hbl hsz)).trans c0; have c1' := (hb.cell (p := ⟨b, o + k * 3 + 1, none⟩) (Nat.lt_of_lt_of_le hbl hsz)).trans c1; have c2' := (hb.cell (p := ⟨b, o + k * 3 + 2, none⟩) (Nat.lt_of_lt_of_le hbl hsz)).trans c2; have d0' := (hb.cell (p := ⟨b', o' + k * 3, none⟩) (Nat.lt_of_lt_of_le hbl' hsz)).trans d0; have d1' := (hb.cell (p := ⟨b', o' + k * 3 + 1, none⟩) (Nat.lt_of_lt_of_le hbl' hsz)).trans d1; have d2' := (hb.cell (p := ⟨b', o' + k * 3 + 2, none⟩) (Nat.lt_of_lt_of_le hbl' hsz)).trans d2; clear hb))
      go_wp2
      go_roundw
      case rel => exact ⟨k + 1, by omega, by go_num, Lib.hid (by repeat (first | with_reducible exact HB3.out | refine bl_drewN ?_ _ | refine Below.drew ?_))⟩
      case measure => simp [intOf]; omega
    · obtain rfl : k = n := by omega
      go_wp2
      go_ret
      exact ⟨rfl, HB.out⟩
def markJb (k0 j : Nat) : Jb := ⟨(k0 + j * 3 : Nat), (k0 + j * 3 + 1 : Nat), (k0 + j * 3 + 2 : Nat)⟩
def jmarks (k0 n : Nat) : List Jb := (List.range n).map (markJb k0)
theorem jmarks_len (k0 n : Nat) : (jmarks k0 n).length = n := by simp [jmarks]
theorem jmarks_get {k0 n j : Nat} (h : j < n) : (jmarks k0 n)[j]? = some (markJb k0 j) := by
  unfold jmarks; rw [List.getElem?_map, List.getElem?_range h]; rfl
theorem jmarks_succ (k0 j : Nat) : jmarks k0 (j + 1) = jmarks k0 j ++ [markJb k0 j] := by
  unfold jmarks; rw [List.range_succ, List.map_append]; rfl
theorem jmarks_put {ts : List Jb} {k0 j : Nat} (h : j < ts.length) : (jmarks k0 j ++ ts.drop j).set j (markJb k0 j) = jmarks k0 (j + 1) ++ ts.drop (j + 1) := by
  rw [List.set_append_right _ _ (by rw [jmarks_len]; omega), jmarks_len, Nat.sub_self, List.drop_eq_getElem_cons h, List.set_cons_zero, jmarks_succ, List.append_assoc]
  rfl
set_option maxHeartbeats 2000000 in
theorem jmark_own (w : World) (B : Nat) (A : Option Addr) (n c k0 : Nat) (ts : List Jb) (h : OwnJ w B (.slice A n c) ts) (hn : n ≤ 1048576) (hk0 : k0 ≤ 6000000) :
    Calls Try.prog 50 #[.slice A n c, .int .i64 k0] w fun e w' => e = .returned (.int .i64 ((k0 + n * 3 : Nat) : Int)) ∧ OwnJ w' B (.slice A n c) (jmarks k0 n) ∧ w.grownBy w' (Value.slice A n c).ownBlock := by
  by_cases h0 : n = 0
  · subst h0
    have hts : ts = [] := List.eq_nil_of_length_eq_zero h.len_.symm
    subst hts
    have H := Lib.hid h
    clear h
    go_enter Try.func50, Try.ntmps50
    go_wp2
    go_loop [1, 5] (fun q i => q = .int .i64 k0 ∧ i = .int .i64 0) (fun _ _ => 0)
    case atStart => exact ⟨rfl, rfl⟩
    case round =>
      obtain ⟨rfl, rfl⟩ := hrel
      go_wp2
      go_ret
      exact ⟨rfl, H.out, World.grownBy.refl _ _⟩
  obtain ⟨g, c2, ev⟩ := h.some_ (by have := h.len_; omega)
  injection ev with eA eN eC
  subst eA
  have H := Lib.hid h
  have HL := Lib.hid h.len_
  clear h eN eC h0
  go_enter Try.func50, Try.ntmps50
  go_wp2
  go_loopw [1, 5] (fun q i wr => ∃ j : Nat, j ≤ n ∧ i = .int .i64 j ∧ q = .int .i64 ((k0 + j * 3 : Nat) : Int) ∧ Hid (OwnJ wr B (.slice (some ⟨g, 0, none⟩) n c) (jmarks k0 j ++ ts.drop j)) ∧ Hid (w.grownBy wr (some g))) (fun _ i _ => n - (intOf i).toNat)
  case atStart => exact ⟨0, Nat.zero_le _, rfl, rfl, H, Lib.hid (World.grownBy.refl _ _)⟩
  case round =>
    obtain ⟨j, hj, rfl, rfl, HO, HG⟩ := hrel
    by_cases hlt : j < n
    · have hjl : j < ts.length := by rw [← HL.out]; exact hlt
      have HP := Lib.hid (jmarks_put (k0 := k0) hjl)
      obtain ⟨t, ht⟩ : ∃ t, (jmarks k0 j ++ ts.drop j)[j]? = some t := ⟨_, List.getElem?_eq_getElem (by simp [jmarks_len]; omega)⟩
      have hlen : j < (jmarks k0 j ++ ts.drop j).length := by simp [jmarks_len]; omega
      obtain ⟨_, _, c0, c1, c2⟩ := ownJ_get HO.out ht
      have hfz := HO.out.frozen
      have HPUT := Lib.hid (OwnJ.put3 HO.out j (markJb k0 j) hlen)
      clear ht hlen
      go_wp2
      go_roundw
      case rel =>
        refine ⟨j + 1, by omega, by go_num, by go_num, Lib.hid ?_, Lib.hid ?_⟩
        · rw [← HP.out]
          exact HPUT.out
        · repeat (first | exact HG.out | refine gb_set ?_ (.inl rfl) _)
      case measure => simp [intOf]; omega
    · obtain rfl : j = n := by omega
      go_wp2
      go_ret
      exact ⟨rfl, by have h := HO.out; rw [List.drop_eq_nil_of_le (by rw [← HL.out]; omega), List.append_nil] at h; exact h, HG.out⟩
end

section
/- Contract of the copy of one task that the exact laws make. -/
open Go.RowKit

set_option maxHeartbeats 1000000 in
theorem toTask_any (lo hi du ev : Int) (c : Bool) (w : World) :
    Calls Try.prog 69 #[.agg #[.int .i64 lo, .int .i64 hi, .int .i64 du, .int .i64 ev, .bool c]] w fun e w' =>
      e = .returned (.agg #[.int .i64 lo, .int .i64 hi, .int .i64 du, .int .i64 ev, .bool c]) ∧ Below w.heap.size w w' := by
  go_enter Try.func69, Try.ntmps69
  go_wp2
  refine bodyPost_ret (v := .agg #[.int .i64 lo, .int .i64 hi, .int .i64 du, .int .i64 ev, .bool c]) (by simp [results, Try.results69, go_sem]) rfl ⟨rfl, ?_⟩
  repeat (first | exact Below.refl _ _ | refine bl_alloc ?_ _ | refine bl_set ?_ (by dsimp only; omega) _)
end

section
/- Contracts of what the exact laws do with lists: count, copy, compare, mark, and look at the marks again. -/
open Go.RowKit

set_option maxHeartbeats 400000 in
theorem sz_any (w : World) (A : Option Addr) (n c : Nat) (hn : n ≤ 9223372036854775807) :
    Calls Try.prog 42 #[.slice A n c, .int .i64 1048576] w fun e w' => e = .returned (.int .i64 (if 1048576 < (n : Int) then -1 else 1048576 - (n : Int))) ∧ w = w' := by
  by_cases h : 1048576 < n
  · go_enter Try.func42, Try.ntmps42
    go_wp2
    go_ret
    exact ⟨rfl, rfl⟩
  · go_enter Try.func42, Try.ntmps42
    go_wp2
    go_ret
    exact ⟨rfl, rfl⟩

theorem Own.frozen {w : World} {B g n c : Nat} {ts : List Tk} (h : Own w B (.slice (some ⟨g, 0, none⟩) n c) ts) : ∀ i, w.frozen? ⟨g, i, none⟩ = false := by
  have hn := h.reads.1
  subst hn
  exact World.ownsRow.frozenAt h

def zeroTk : Tk := ⟨0, 0, 0, 0, false⟩

theorem info_zero : zeroTk.cells = [.int .i64 0, .int .i64 0, .int .i64 0, .int .i64 0, .bool false] := rfl

theorem zero_cells (n : Nat) : (madeCells (Value.agg #[.int .i64 0, .int .i64 0, .int .i64 0, .int .i64 0, .bool false]).cells (n * 5)).toList = (List.replicate n zeroTk).flatMap Tk.cells := by
  have hl : ∀ m : Nat, (List.replicate m zeroTk).flatMap Tk.cells = (List.range (m * 5)).map fun j => if j % 5 = 4 then Value.bool false else .int .i64 0 := by
    intro m
    induction m with
    | zero => rfl
    | succ m ih =>
      rw [List.replicate_succ', List.flatMap_append, ih]
      have e : (m + 1) * 5 = m * 5 + 1 + 1 + 1 + 1 + 1 := by omega
      rw [e, List.range_succ, List.range_succ, List.range_succ, List.range_succ, List.range_succ]
      have q0 : ¬ (m * 5) % 5 = 4 := by omega
      have q1 : ¬ (m * 5 + 1) % 5 = 4 := by omega
      have q2 : ¬ (m * 5 + 1 + 1) % 5 = 4 := by omega
      have q3 : ¬ (m * 5 + 1 + 1 + 1) % 5 = 4 := by omega
      have q4 : (m * 5 + 1 + 1 + 1 + 1) % 5 = 4 := by omega
      simp only [List.map_append, List.map_cons, List.map_nil, q0, q1, q2, q3, q4, if_true, if_false, List.append_assoc, List.flatMap_cons, List.flatMap_nil, List.append_nil]
      rfl
  rw [hl]
  have hz : (Value.agg #[.int .i64 0, .int .i64 0, .int .i64 0, .int .i64 0, .bool false]).cells = #[.int .i64 0, .int .i64 0, .int .i64 0, .int .i64 0, .bool false] := rfl
  unfold madeCells
  rw [hz, Array.toList_map, Array.toList_range]
  refine List.map_congr_left fun j _ => ?_
  show (#[Value.int .i64 0, .int .i64 0, .int .i64 0, .int .i64 0, .bool false])[j % 5]! = _
  rcases (by omega : j % 5 = 0 ∨ j % 5 = 1 ∨ j % 5 = 2 ∨ j % 5 = 3 ∨ j % 5 = 4) with h | h | h | h | h <;> rw [h] <;> rfl

/-- The list of the laws' own tasks reads as the tasks ts (of another type of the same fields). -/
theorem take_put {ts : List Tk} {k : Nat} {t : Tk} (h : ts[k]? = some t) : (ts.take k ++ List.replicate (ts.length - k) zeroTk).set k t = ts.take (k + 1) ++ List.replicate (ts.length - (k + 1)) zeroTk := by
  obtain ⟨hk, rfl⟩ := List.getElem?_eq_some_iff.1 h
  rw [List.take_succ_eq_append_getElem hk]
  have e : ts.length - k = (ts.length - (k + 1)) + 1 := by omega
  rw [e, List.replicate_succ, List.set_append_right _ _ (by rw [List.length_take]; omega)]
  have e2 : k - (ts.take k).length = 0 := by rw [List.length_take]; omega
  rw [e2, List.set_cons_zero, List.append_assoc]
  rfl

set_option maxHeartbeats 1000000 in
theorem toTaskS_any (w : World) (A : Option Addr) (n c : Nat) (ts : List Tk) (h : Tks w w.heap.size A n ts) (hn : n ≤ 1048576) :
    Calls Try.prog 44 #[.slice A n c] w (LsRes ts w) := by
  obtain ⟨i0, hi, hz0, hz1, hz2⟩ := info_parts info_task
  have H := Lib.hid h
  have HL := Lib.hid h.len
  clear h
  go_enter Try.func44, Try.ntmps44
  go_wp2_with (at_make; refine wpList_make_full _ rfl _ _ 23 rfl w.heap.size 73 i0 _ 5 Try.underlying23 hi hz0 hz1 .i64 .i64 _ _ n rfl rfl rfl rfl (by rw [hz2]; omega) (by unfold maxLen; omega) (Nat.le_refl _) ?_; intro w2 hown0 hgrow0)
  have HO0 : Hid (Own w2 w.heap.size (.slice (some ⟨w.heap.size, 0, none⟩) n n) (List.replicate n zeroTk)) := by
    show w2.ownsRow _ _ _ _ _ _
    rw [← zero_cells, List.length_replicate]
    exact hown0
  have HB2 := Lib.hid ((Below.refl _ w).grown hgrow0 (Nat.le_refl _) (fun k e => by cases e))
  clear hown0 hgrow0
  go_loopw [4] (fun i wr => ∃ k : Nat, k ≤ n ∧ i = .int .i64 k ∧ Own wr w.heap.size (.slice (some ⟨w.heap.size, 0, none⟩) n n) (ts.take k ++ List.replicate (ts.length - k) zeroTk) ∧ Below w.heap.size w wr) (fun i _ => n - (intOf i).toNat)
  case atStart => exact ⟨0, Nat.zero_le _, rfl, by rw [HL.out]; exact HO0.out, HB2.out⟩
  case round =>
    obtain ⟨k, hk, rfl, ho, hb⟩ := hrel
    have HO := Lib.hid ho
    have HB := Lib.hid hb
    clear ho hb
    by_cases hlt : k < n
    · obtain ⟨t, ht⟩ : ∃ t, ts[k]? = some t := ⟨ts[k]'(by rw [HL.out]; exact hlt), List.getElem?_eq_getElem _⟩
      obtain ⟨b, o, rfl, hbl, c0, c1, c2, c3, c4⟩ := (H.out.below HB.out).at_ k t ht
      have HP := Lib.hid (take_put ht)
      obtain ⟨lo, hi', du, ev, cr⟩ := t
      dsimp only at c0 c1 c2 c3 c4
      clear ht
      go_wp2_with fail
      refine (toTask_any lo hi' du ev cr wr).mono ?_
      rintro e w3 ⟨rfl, hb3⟩
      clear c0 c1 c2 c3 c4
      have HB3 := Lib.hid (bl_trans HB.out hb3)
      have HO3 := Lib.hid (HO.out.below hb3)
      clear hb3
      have hlen : (ts.take k ++ List.replicate (ts.length - k) zeroTk).length = n := by simp [HL.out]; omega
      obtain ⟨t', ht'⟩ : ∃ t', (ts.take k ++ List.replicate (ts.length - k) zeroTk)[k]? = some t' := ⟨_, List.getElem?_eq_getElem (by omega)⟩
      have hfz := Own.frozen HO3.out
      obtain ⟨b', o', eA, hbl', c0, c1, c2, c3, c4⟩ := HO3.out.reads.2.at_ k t' ht'
      injection eA with eA
      injection eA with eA1 eA2
      subst eA1 eA2
      simp only [Nat.zero_add] at c0 c1 c2 c3 c4
      have HLN := Lib.hid hlen
      clear ht' hlen
      go_wp2
      go_roundw
      case rel => exact ⟨k + 1, by omega, by go_num, by rw [← HP.out]; exact HO3.out.put k ⟨lo, hi', du, ev, cr⟩ (by rw [HLN.out]; exact hlt), by repeat (first | exact HB3.out | refine bl_set ?_ (by dsimp only; omega) _)⟩
      case measure => simp [intOf]; omega
    · obtain rfl : k = n := by omega
      go_wp2
      go_ret
      exact lsRes_of HO.out HB.out (by rw [HL.out, List.take_of_length_le (by rw [HL.out]; omega)]; simp)
end

section
/- Contract of dmTasks: two lists of the same tasks are equal. -/
open Go.RowKit

def Same (w : World) (e : Ending) (w' : World) : Prop := e = .returned (.bool true) ∧ Below w.heap.size w w'
end

section
/- Contracts of what the exact laws do with results: compare two lists, write marks into one, and look at the marks again. -/
open Go.RowKit

set_option maxHeartbeats 1000000 in
theorem eqTask_any (w : World) (lo hi du ev : Int) (cr : Bool) :
    Calls Try.prog 71 #[.agg #[.int .i64 lo, .int .i64 hi, .int .i64 du, .int .i64 ev, .bool cr], .agg #[.int .i64 lo, .int .i64 hi, .int .i64 du, .int .i64 ev, .bool cr]] w fun e w' =>
      e = .returned (.bool true) ∧ Below w.heap.size w w' := by
  go_enter Try.func71, Try.ntmps71
  go_wp2
  go_ret
  exact ⟨rfl, bl_alloc (bl_alloc (Below.refl _ _) _) _⟩

set_option maxHeartbeats 2000000 in
theorem eqTaskS_any (w : World) (A A' : Option Addr) (n c c' : Nat) (ts : List Tk) (h : Tks w w.heap.size A n ts) (h' : Tks w w.heap.size A' n ts) (hn : n ≤ 1048576) :
    Calls Try.prog 47 #[.slice A n c, .slice A' n c'] w (Same w) := by
  have H := Lib.hid h
  have H' := Lib.hid h'
  have HL := Lib.hid h.len
  clear h h'
  go_enter Try.func47, Try.ntmps47
  go_wp2
  go_loopw [5] (fun i wr => ∃ k : Nat, k ≤ n ∧ i = .int .i64 k ∧ Below w.heap.size w wr) (fun i _ => n - (intOf i).toNat)
  case atStart => exact ⟨0, Nat.zero_le _, rfl, Below.refl _ _⟩
  case round =>
    obtain ⟨k, hk, rfl, hb⟩ := hrel
    have HB := Lib.hid hb
    have hsz := hb.size
    clear hb
    by_cases hlt : k < n
    · obtain ⟨t, ht⟩ : ∃ t, ts[k]? = some t := ⟨ts[k]'(by rw [HL.out]; exact hlt), List.getElem?_eq_getElem _⟩
      obtain ⟨b, o, rfl, hbl, c0, c1, c2, c3, c4⟩ := (H.out.below HB.out).at_ k t ht
      obtain ⟨b', o', rfl, hbl', d0, d1, d2, d3, d4⟩ := (H'.out.below HB.out).at_ k t ht
      obtain ⟨lo, hi, du, ev, cr⟩ := t
      dsimp only at c0 c1 c2 c3 c4 d0 d1 d2 d3 d4
      clear ht
      have i1 : (0 : Int) ≤ (k : Int) := by omega
      have i2 : (k : Int) < (n : Int) := by omega
      go_wp2
      go_region_held3 (fun W => (W.cell? ⟨b, o + k * 5, none⟩ = some (.int .i64 lo) ∧ W.cell? ⟨b, o + k * 5 + 1, none⟩ = some (.int .i64 hi) ∧ W.cell? ⟨b, o + k * 5 + 2, none⟩ = some (.int .i64 du) ∧ W.cell? ⟨b, o + k * 5 + 3, none⟩ = some (.int .i64 ev) ∧ W.cell? ⟨b, o + k * 5 + 4, none⟩ = some (.bool cr)) ∧ W.cell? ⟨b', o' + k * 5, none⟩ = some (.int .i64 lo) ∧ W.cell? ⟨b', o' + k * 5 + 1, none⟩ = some (.int .i64 hi) ∧ W.cell? ⟨b', o' + k * 5 + 2, none⟩ = some (.int .i64 du) ∧ W.cell? ⟨b', o' + k * 5 + 3, none⟩ = some (.int .i64 ev) ∧ W.cell? ⟨b', o' + k * 5 + 4, none⟩ = some (.bool cr)) (first | assumption | (simp [go_sem, *]; done))
        ((go_at_call 71; refine (eqTask_any _ lo hi du ev cr).mono ?_; rintro e w' ⟨rfl, hb⟩; have c0' := (hb.cell (p := ⟨b, o + k * 5, none⟩) (Nat.lt_of_lt_of_le hbl hsz)).trans c0; have c1' := (hb.cell (p := ⟨b, o + k * 5 + 1, none⟩) (Nat.lt_of_lt_of_le hbl hsz)).trans c1; have c2' := (hb.cell (p := ⟨b, o + k * 5 + 2, none⟩) (Nat.lt_of_lt_of_le hbl hsz)).trans c2; have c3' := (hb.cell (p := ⟨b, o + k * 5 + 3, none⟩) (Nat.lt_of_lt_of_le hbl hsz)).trans c3; have c4' := (hb.cell (p := ⟨b, o + k * 5 + 4, none⟩) (Nat.lt_of_lt_of_le hbl hsz)).trans c4; have d0' := (hb.cell (p := ⟨b', o' + k * 5, none⟩) (Nat.lt_of_lt_of_le hbl' hsz)).trans d0; have d1' := (hb.cell (p := ⟨b', o' + k * 5 + 1, none⟩) (Nat.lt_of_lt_of_le hbl' hsz)).trans d1; have d2' := (hb.cell (p := ⟨b', o' + k * 5 + 2, none⟩) (Nat.lt_of_lt_of_le hbl' hsz)).trans d2; have d3' := (hb.cell (p := ⟨b', o' + k * 5 + 3, none⟩) (Nat.lt_of_lt_of_le hbl' hsz)).trans d3; have d4' := (hb.cell (p := ⟨b', o' + k * 5 + 4, none⟩) (Nat.lt_of_lt_of_le hbl' hsz)).trans d4; have HB3 : Hid (Below w.heap.size w w') := HB.out.trans ((show Below wr.heap.size wr w' from ⟨hb.os, hb.tape, hb.output, hb.size, hb.block⟩).mono hsz); clear hb))
      go_wp2
      go_roundw
      case rel => exact ⟨k + 1, by omega, by go_num, HB3.out⟩
      case measure => simp [intOf]; omega
    · obtain rfl : k = n := by omega
      go_wp2
      go_ret
      exact ⟨rfl, HB.out⟩

def markTk (k0 j : Nat) : Tk := ⟨(k0 + j * 5 : Nat), (k0 + j * 5 + 1 : Nat), (k0 + j * 5 + 2 : Nat), (k0 + j * 5 + 3 : Nat), ((k0 + j * 5 + 4 : Nat) : Int) % 3 == 0⟩
def marks (k0 n : Nat) : List Tk := (List.range n).map (markTk k0)

theorem marks_len (k0 n : Nat) : (marks k0 n).length = n := by simp [marks]
theorem marks_get {k0 n j : Nat} (h : j < n) : (marks k0 n)[j]? = some (markTk k0 j) := by
  unfold marks; rw [List.getElem?_map, List.getElem?_range h]; rfl
theorem marks_succ (k0 j : Nat) : marks k0 (j + 1) = marks k0 j ++ [markTk k0 j] := by
  unfold marks; rw [List.range_succ, List.map_append]; rfl
theorem marks_put {ts : List Tk} {k0 j : Nat} (h : j < ts.length) : (marks k0 j ++ ts.drop j).set j (markTk k0 j) = marks k0 (j + 1) ++ ts.drop (j + 1) := by
  rw [List.set_append_right _ _ (by rw [marks_len]; omega), marks_len, Nat.sub_self, List.drop_eq_getElem_cons h, List.set_cons_zero, marks_succ, List.append_assoc]
  rfl

def MarkRes (k0 n g : Nat) (B : Nat) (v : Value) (w : World) (e : Ending) (w' : World) : Prop :=
  e = .returned (.int .i64 ((k0 + n * 5 : Nat) : Int)) ∧ Own w' B v (marks k0 n) ∧ w.grownBy w' (some g)

set_option maxHeartbeats 2000000 in
theorem mark_any (w : World) (B g n c k0 : Nat) (ts : List Tk) (h : Own w B (.slice (some ⟨g, 0, none⟩) n c) ts) (hn : n ≤ 1048576) (hk0 : k0 ≤ 10) :
    Calls Try.prog 49 #[.slice (some ⟨g, 0, none⟩) n c, .int .i64 k0] w (MarkRes k0 n g B (.slice (some ⟨g, 0, none⟩) n c) w) := by
  have H := Lib.hid h
  have HL := Lib.hid h.reads.1
  clear h
  go_enter Try.func49, Try.ntmps49
  go_wp2
  go_loopw [1, 5] (fun q i wr => ∃ j : Nat, j ≤ n ∧ i = .int .i64 j ∧ q = .int .i64 ((k0 + j * 5 : Nat) : Int) ∧ Own wr B (.slice (some ⟨g, 0, none⟩) n c) (marks k0 j ++ ts.drop j) ∧ w.grownBy wr (some g)) (fun _ i _ => n - (intOf i).toNat)
  case atStart => exact ⟨0, Nat.zero_le _, rfl, rfl, H.out, World.grownBy.refl _ _⟩
  case round =>
    obtain ⟨j, hj, rfl, rfl, ho, hg⟩ := hrel
    have HO := Lib.hid ho
    have HG := Lib.hid hg
    clear ho hg
    by_cases hlt : j < n
    · have hjl : j < ts.length := by rw [← HL.out]; exact hlt
      have HP := Lib.hid (marks_put (k0 := k0) hjl)
      obtain ⟨t, ht⟩ : ∃ t, (marks k0 j ++ ts.drop j)[j]? = some t := ⟨_, List.getElem?_eq_getElem (by simp [marks_len]; omega)⟩
      have hlen : j < (marks k0 j ++ ts.drop j).length := by simp [marks_len]; omega
      obtain ⟨b, o, eA, hbl, c0, c1, c2, c3, c4⟩ := HO.out.reads.2.at_ j t ht
      injection eA with eA
      injection eA with eA1 eA2
      subst eA1 eA2
      simp only [Nat.zero_add] at c0 c1 c2 c3 c4
      have hfz := HO.out.frozen
      have HH := Lib.hid hlen
      clear ht hlen
      go_wp2
      go_roundw
      case rel =>
        refine ⟨j + 1, by omega, by go_num, by go_num, ?_, ?_⟩
        · rw [← HP.out]
          have hx := HO.out.put j (markTk k0 j) HH.out
          exact hx
        · repeat (first | exact HG.out | refine gb_set ?_ (.inl rfl) _)
      case measure => simp [intOf]; omega
    · obtain rfl : j = n := by omega
      go_wp2
      go_ret
      exact ⟨rfl, by have h := HO.out; rw [List.drop_eq_nil_of_le (by rw [← HL.out]; omega), List.append_nil] at h; exact h, HG.out⟩
end

section
/- Contract of the marks that the exact laws write into a result: into its own memory, and nothing beside. -/
open Go.RowKit

theorem mark_own (w : World) (B : Nat) (A : Option Addr) (n c k0 : Nat) (ts : List Tk) (h : Own w B (.slice A n c) ts) (hn : n ≤ 1048576) (hk0 : k0 ≤ 10) :
    Calls Try.prog 49 #[.slice A n c, .int .i64 k0] w fun e w' => e = .returned (.int .i64 ((k0 + n * 5 : Nat) : Int)) ∧ Own w' B (.slice A n c) (marks k0 n) ∧ w.grownBy w' (Value.slice A n c).ownBlock := by
  rcases h.2 with ⟨e, h0⟩ | ⟨g, cap, cur, e, _⟩
  · injection e with e1 e2 e3
    subst e1 e2 e3
    go_enter Try.func49, Try.ntmps49
    go_wp2
    go_loop [1, 5] (fun q i => q = .int .i64 k0 ∧ i = .int .i64 0) (fun _ _ => 0)
    case atStart => exact ⟨rfl, rfl⟩
    case round =>
      obtain ⟨rfl, rfl⟩ := hrel
      go_wp2
      go_ret
      exact ⟨rfl, Own.nil_ _ _, World.grownBy.refl _ _⟩
  · injection e with e1 e2 e3
    subst e1
    exact (mark_any w B g n c k0 ts h hn hk0).mono fun _ _ hh => hh

theorem Own.kept_down {w w' : World} {B M : Nat} {v : Value} {ts : List Tk} {row : Option Nat} (h : Own w B v ts) (hg : w.grownBy w' row) (hv : ∀ k, v.ownBlock = some k → k < M) (hr : ∀ k, row = some k → M ≤ k) : Own w' B v ts := by
  refine World.ownsRow.kept h hg ?_
  rcases he : v.ownBlock with _ | k
  · exact .inl rfl
  · right
    intro e
    have := hv k he
    have := hr k e.symm
    omega
end

end Go.Proofs.Ytjondedkgkohfaa
