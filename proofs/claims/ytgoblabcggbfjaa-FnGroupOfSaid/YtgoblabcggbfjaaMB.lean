/- Texts of this seat in one file: Zs, Zm, Zx, Zk, OrdM, OrdA, SOrd, SPut, SCan, SCan2, SAsg, SAll, SAny, Dr4. -/
import Derived.Test.YtgoblabcggbfjaaMA
import Derived.Deep.QuietTactic
import Derived.BigQuiet
import Derived.LoopTactic
import Derived.Deep.RegionLaw
namespace Go.Proofs.Ytgoblabcggbfjaa

section
/- Lists of numbers in memory: read, of the call's own. -/
open Go.RowKit
set_option linter.unusedVariables false

/-- The slice (A, n) reads as the numbers zs; it lies below block B. -/
structure Zs (w : World) (B : Nat) (A : Option Addr) (n : Nat) (zs : List Int) : Prop where
  len : zs.length = n
  at_ : ∀ i z, zs[i]? = some z → ∃ b o, A = some ⟨b, o, none⟩ ∧ b < B ∧ w.cell? ⟨b, o + i, none⟩ = some (.int .i64 z)
theorem Zs.below {w w' : World} {B : Nat} {A : Option Addr} {n : Nat} {zs : List Int} (h : Zs w B A n zs) (hb : Below B w w') : Zs w' B A n zs :=
  ⟨h.len, fun i z hz => by
    obtain ⟨b, o, e, hbB, hc⟩ := h.at_ i z hz
    exact ⟨b, o, e, hbB, (hb.cell (p := ⟨b, o + i, none⟩) hbB).trans hc⟩⟩
theorem Zs.more {w : World} {B B' : Nat} {A : Option Addr} {n : Nat} {zs : List Int} (h : Zs w B A n zs) (hB : B ≤ B') : Zs w B' A n zs :=
  ⟨h.len, fun i z hz => by
    obtain ⟨b, o, e, hbB, hc⟩ := h.at_ i z hz
    exact ⟨b, o, e, by omega, hc⟩⟩
theorem Zs.get {w : World} {B b o n : Nat} {zs : List Int} (h : Zs w B (some ⟨b, o, none⟩) n zs) {i : Nat} {z : Int} (hz : zs[i]? = some z) : b < B ∧ w.cell? ⟨b, o + i, none⟩ = some (.int .i64 z) := by
  obtain ⟨b', o', e, hb, hc⟩ := h.at_ i z hz
  injection e with e
  injection e with e1 e2
  subst e1 e2
  exact ⟨hb, hc⟩
theorem Zs.take {w : World} {B : Nat} {A : Option Addr} {n k : Nat} {zs : List Int} (h : Zs w B A n zs) (hk : k ≤ n) : Zs w B A k (zs.take k) :=
  ⟨by rw [List.length_take, h.len]; omega, fun i t ht => h.at_ i t (by
    rw [List.getElem?_take] at ht
    split at ht
    · exact ht
    · cases ht)⟩
theorem Zs.drop {w : World} {B b o : Nat} {n k m : Nat} {zs : List Int} (h : Zs w B (some ⟨b, o, none⟩) n zs) (hm : m = o + k) : Zs w B (some ⟨b, m, none⟩) (n - k) (zs.drop k) :=
  ⟨by rw [List.length_drop, h.len], fun i t ht => by
    rw [List.getElem?_drop] at ht
    obtain ⟨hb, hc⟩ := h.get ht
    subst hm
    exact ⟨b, _, rfl, hb, by rw [Nat.add_assoc]; exact hc⟩⟩
/-- The slice value v is the call's own and holds the numbers zs. -/
def OwnZ (w : World) (B : Nat) (v : Value) (zs : List Int) : Prop := w.ownsRow B 3 1 v zs.length (zs.map (Value.int .i64))
theorem OwnZ.form {w : World} {B : Nat} {v : Value} {zs : List Int} (h : OwnZ w B v zs) : ∃ A c, v = .slice A zs.length c := by
  rcases h.2 with ⟨e, h0⟩ | ⟨g, cap, cur, e, _⟩
  · exact ⟨none, 0, by rw [e, h0]⟩
  · exact ⟨_, cap, e⟩
theorem OwnZ.reads {w : World} {B : Nat} {A : Option Addr} {c : Nat} {zs : List Int} (h : OwnZ w B (.slice A zs.length c) zs) : Zs w w.heap.size A zs.length zs := by
  refine ⟨rfl, fun i z hz => ?_⟩
  have hi : i < zs.length := (List.getElem?_eq_some_iff.1 hz).1
  rcases h.2 with ⟨e, h0⟩ | ⟨g, cap, cur, e, _, hg, _⟩
  · omega
  · injection e with e1 e2 e3
    subst e1
    have hlt : g < w.heap.size := by
      rcases Nat.lt_or_ge g w.heap.size with hlt | hge
      · exact hlt
      · rw [Array.getElem?_eq_none hge] at hg; cases hg
    have := h.cells (g := g) rfl i (.int .i64 z) (by rw [List.getElem?_map, hz]; rfl)
    have ea : (⟨g, 0, none⟩ : Addr).add i = ⟨g, i, none⟩ := by unfold Addr.add; split <;> simp_all
    rw [ea] at this
    exact ⟨g, 0, rfl, hlt, by rw [Nat.zero_add]; exact this⟩
theorem OwnZ.le {w : World} {B c : Nat} {A : Option Addr} {zs : List Int} (h : OwnZ w B (.slice A zs.length c) zs) : zs.length ≤ c := by
  rcases h.2 with ⟨e, h0⟩ | ⟨g, cap, cur, e, _, _, h1, h2, _⟩
  · omega
  · injection e with e1 e2 e3
    subst e3
    exact h1
theorem OwnZ.snoc {w : World} {B : Nat} {v : Value} {zs : List Int} {z : Int} (h : w.ownsRow B 3 1 v (zs.length + 1) (zs.map (Value.int .i64) ++ [.int .i64 z])) : OwnZ w B v (zs ++ [z]) := by
  unfold OwnZ
  rw [List.map_append, List.length_append]
  simpa using h
theorem OwnZ.empty (w : World) : OwnZ (w.alloc (.cells #[] 3)) w.heap.size (.slice (some ⟨w.heap.size, 0, none⟩) 0 0) [] :=
  ⟨rfl, .inr ⟨w.heap.size, 0, #[], rfl, Nat.le_refl _, heap_alloc_new w _, Nat.le_refl _, Nat.zero_le _, rfl, rfl⟩⟩
theorem OwnZ.alloc {w : World} {B : Nat} {v : Value} {zs : List Int} (h : OwnZ w B v zs) (o : Obj) : OwnZ (w.alloc o) B v zs := World.ownsRow.alloc h o
theorem OwnZ.below {w w' : World} {B : Nat} {v : Value} {zs : List Int} (h : OwnZ w B v zs) (hb : Below w.heap.size w w') : OwnZ w' B v zs := by
  refine ⟨h.1, ?_⟩
  rcases h.2 with hn | ⟨g, cap, cur, e, h1, hg, h3⟩
  · exact .inl hn
  · refine .inr ⟨g, cap, cur, e, h1, ?_, h3⟩
    have hlt : g < w.heap.size := by
      rcases Nat.lt_or_ge g w.heap.size with hlt | hge
      · exact hlt
      · rw [Array.getElem?_eq_none hge] at hg; cases hg
    exact (hb.block g hlt).trans hg
theorem OwnZ.less {w : World} {B B' : Nat} {v : Value} {zs : List Int} (h : OwnZ w B v zs) (hB : B' ≤ B) : OwnZ w B' v zs := by
  refine ⟨h.1, ?_⟩
  rcases h.2 with hn | ⟨g, cap, cur, e, h1, h3⟩
  · exact .inl hn
  · exact .inr ⟨g, cap, cur, e, by omega, h3⟩
theorem OwnZ.kept {w w' : World} {B : Nat} {v : Value} {zs : List Int} {row : Option Nat} (h : OwnZ w B v zs) (hg : w.grownBy w' row) (hr : ∀ k, row = some k → k < B) : OwnZ w' B v zs := by
  refine World.ownsRow.kept h hg ?_
  rcases he : v.ownBlock with _ | k
  · exact .inl rfl
  · right
    intro e
    have := (World.ownsRow.lt h k he).1
    have := hr k e.symm
    omega
/-- A list of numbers as the result, and whether there is one. -/
def ZsRes (zs : List Int) (w : World) (e : Ending) (w' : World) : Prop :=
  ∃ (A : Option Addr) (c : Nat), e = .returned (.slice A zs.length c) ∧ OwnZ w' w.heap.size (.slice A zs.length c) zs ∧ Below w.heap.size w w'
def ZsRes2 (zs : List Int) (b : Bool) (w : World) (e : Ending) (w' : World) : Prop :=
  ∃ (A : Option Addr) (c : Nat), e = .returned (.tuple #[.slice A zs.length c, .bool b]) ∧ OwnZ w' w.heap.size (.slice A zs.length c) zs ∧ Below w.heap.size w w'
def LsRes2 (ts : List Tk) (b : Bool) (w : World) (e : Ending) (w' : World) : Prop :=
  ∃ (A : Option Addr) (c : Nat), e = .returned (.tuple #[.slice A ts.length c, .bool b]) ∧ Own w' w.heap.size (.slice A ts.length c) ts ∧ Below w.heap.size w w'
def toZ (o : List Nat) : List Int := o.map Int.ofNat
theorem toZ_len (o : List Nat) : (toZ o).length = o.length := by simp [toZ]

/-- Whether numbers are all numbers below n, each once. -/
def ordB (zs : List Int) (n : Nat) : Bool := decide (zs.length = n) && (zs.all (fun z => decide (0 ≤ z) && decide (z < (n : Int))) && decide zs.Nodup)
theorem ordB_iff {zs : List Int} {n : Nat} : ordB zs n = true ↔ zs.length = n ∧ (∀ z ∈ zs, 0 ≤ z ∧ z < (n : Int)) ∧ zs.Nodup := by
  unfold ordB
  simp only [Bool.and_eq_true, decide_eq_true_iff, List.all_eq_true]
end

section
/- What the laws do with lists of numbers: compare, copy, mark. -/
open Go.RowKit
set_option linter.unusedVariables false

theorem zs_at {w : World} {B : Nat} {A : Option Addr} {n k : Nat} {zs : List Int} (h : Zs w B A n zs) (hk : k < n) : ∃ z, zs[k]? = some z := ⟨zs[k]'(by rw [h.len]; exact hk), List.getElem?_eq_getElem _⟩
theorem OwnZ.put {w : World} {B g n c : Nat} {zs : List Int} (h : OwnZ w B (.slice (some ⟨g, 0, none⟩) n c) zs) (k : Nat) (z : Int) : OwnZ (w.setCell ⟨g, k, none⟩ (.int .i64 z)) B (.slice (some ⟨g, 0, none⟩) n c) (zs.set k z) := by
  unfold OwnZ
  rw [List.length_set, List.map_set]
  refine ⟨by rw [List.length_set]; exact h.1, ?_⟩
  rcases h.2 with ⟨e, h0⟩ | ⟨g', cap, cur, e, hb, hg, h1, h2, h3, h4⟩
  · cases e
  · injection e with e1 e2 e3
    injection e1 with e1
    injection e1 with e1
    subst e1
    refine .inr ⟨g, cap, cur.setIfInBounds k (.int .i64 z), by rw [e2, e3], hb, ?_, h1, h2, by rw [Array.size_setIfInBounds]; exact h3, ?_⟩
    · simp [World.setCell, Array.getElem?_modify, hg]
    · rw [Array.toList_setIfInBounds, ← h4, List.take_set]
theorem OwnZ.frozen {w : World} {B g n c : Nat} {zs : List Int} (h : OwnZ w B (.slice (some ⟨g, 0, none⟩) n c) zs) : ∀ i, w.frozen? ⟨g, i, none⟩ = false := by
  have hn : n = zs.length := by
    rcases h.2 with ⟨e, h0⟩ | ⟨g', cap, cur, e, _⟩
    · cases e
    · injection e
  subst hn
  exact World.ownsRow.frozenAt h
theorem OwnZ.lt {w : World} {B g n c : Nat} {zs : List Int} (h : OwnZ w B (.slice (some ⟨g, 0, none⟩) n c) zs) : B ≤ g ∧ g < w.heap.size := World.ownsRow.lt h g rfl

set_option maxHeartbeats 1000000 in
theorem dmInts_any (w : World) (A A' : Option Addr) (n c c' : Nat) (zs : List Int) (h : Zs w w.heap.size A n zs) (h' : Zs w w.heap.size A' n zs) (hn : n ≤ 1048576) :
    Calls Try.prog 21 #[.slice A n c, .slice A' n c'] w fun e w' => e = .returned (.bool true) ∧ Below w.heap.size w w' := by
  have H := Lib.hid h
  have H' := Lib.hid h'
  clear h h'
  go_enter Try.func21, Try.ntmps21
  go_wp2
  go_loopw [5] (fun i wr => ∃ k : Nat, k ≤ n ∧ i = .int .i64 k ∧ Below w.heap.size w wr) (fun i _ => n - (intOf i).toNat)
  case atStart => exact ⟨0, Nat.zero_le _, rfl, Below.refl _ _⟩
  case round =>
    obtain ⟨k, hk, rfl, hb⟩ := hrel
    have HB := Lib.hid hb
    clear hb
    by_cases hlt : k < n
    · obtain ⟨z, hz⟩ := zs_at H.out hlt
      obtain ⟨b, o, rfl, hbl, c0⟩ := (H.out.below HB.out).at_ k z hz
      obtain ⟨b', o', rfl, hbl', d0⟩ := (H'.out.below HB.out).at_ k z hz
      clear hz
      have i1 : (0 : Int) ≤ (k : Int) := by omega
      have i2 : (k : Int) < (n : Int) := by omega
      go_wp2
      go_quiet (fail)
      go_wp2
      go_roundw
      case rel => exact ⟨k + 1, by omega, by go_num, bl_drewN HB.out _⟩
      case measure => simp [intOf]; omega
    · obtain rfl : k = n := by omega
      go_wp2
      go_ret
      exact ⟨rfl, HB.out⟩
end

section
/- What the exact laws do with lists of numbers: compare, copy. -/
open Go.RowKit
set_option linter.unusedVariables false

set_option maxHeartbeats 1000000 in
theorem eqIntS_any (w : World) (A A' : Option Addr) (n c c' : Nat) (zs : List Int) (h : Zs w w.heap.size A n zs) (h' : Zs w w.heap.size A' n zs) (hn : n ≤ 1048576) :
    Calls Try.prog 43 #[.slice A n c, .slice A' n c'] w fun e w' => e = .returned (.bool true) ∧ Below w.heap.size w w' := by
  have H := Lib.hid h
  have H' := Lib.hid h'
  clear h h'
  go_enter Try.func43, Try.ntmps43
  go_wp2
  go_loopw [5] (fun i wr => ∃ k : Nat, k ≤ n ∧ i = .int .i64 k ∧ Below w.heap.size w wr) (fun i _ => n - (intOf i).toNat)
  case atStart => exact ⟨0, Nat.zero_le _, rfl, Below.refl _ _⟩
  case round =>
    obtain ⟨k, hk, rfl, hb⟩ := hrel
    have HB := Lib.hid hb
    clear hb
    by_cases hlt : k < n
    · obtain ⟨z, hz⟩ := zs_at H.out hlt
      obtain ⟨b, o, rfl, hbl, c0⟩ := (H.out.below HB.out).at_ k z hz
      obtain ⟨b', o', rfl, hbl', d0⟩ := (H'.out.below HB.out).at_ k z hz
      clear hz
      have i1 : (0 : Int) ≤ (k : Int) := by omega
      have i2 : (k : Int) < (n : Int) := by omega
      go_wp2
      go_quiet (fail)
      go_wp2
      go_roundw
      case rel => exact ⟨k + 1, by omega, by go_num, bl_drewN HB.out _⟩
      case measure => simp [intOf]; omega
    · obtain rfl : k = n := by omega
      go_wp2
      go_ret
      exact ⟨rfl, HB.out⟩

theorem made_int (n : Nat) : (madeCells (Value.int .i64 0).cells (n * 1)).toList = (List.replicate n (0 : Int)).map (Value.int .i64) := by
  unfold madeCells
  rw [Array.toList_map, Array.toList_range, Nat.mul_one, List.map_replicate]
  refine List.ext_getElem? fun j => ?_
  rw [List.getElem?_map, List.getElem?_replicate]
  by_cases hj : j < n
  · rw [List.getElem?_range hj, if_pos hj]
    show some (#[Value.int .i64 0])[j % 1]! = _
    rw [Nat.mod_one]; rfl
  · rw [if_neg hj, List.getElem?_eq_none (by simpa using hj)]; rfl
theorem zs_put {zs : List Int} {k : Nat} {z : Int} (h : zs[k]? = some z) : (zs.take k ++ List.replicate (zs.length - k) (0 : Int)).set k z = zs.take (k + 1) ++ List.replicate (zs.length - (k + 1)) (0 : Int) := by
  obtain ⟨hk, rfl⟩ := List.getElem?_eq_some_iff.1 h
  rw [List.take_succ_eq_append_getElem hk]
  have e : zs.length - k = (zs.length - (k + 1)) + 1 := by omega
  rw [e, List.replicate_succ, List.set_append_right _ _ (by rw [List.length_take]; omega)]
  have e2 : k - (zs.take k).length = 0 := by rw [List.length_take]; omega
  rw [e2, List.set_cons_zero, List.append_assoc]
  rfl

set_option maxRecDepth 100000 in
set_option maxHeartbeats 2000000 in
theorem toIntS_any (w : World) (A : Option Addr) (n c : Nat) (zs : List Int) (h : Zs w w.heap.size A n zs) (hn : n ≤ 1048576) :
    Calls Try.prog 51 #[.slice A n c] w (ZsRes zs w) := by
  obtain ⟨i0, hi, hz0, hz1, hz2⟩ := info_parts info_int
  have H := Lib.hid h
  have HL := Lib.hid h.len
  clear h
  go_enter Try.func51, Try.ntmps51
  go_wp2_with (at_make; refine wpList_make_full _ rfl _ _ 25 rfl w.heap.size 3 i0 _ 1 Try.underlying25 hi hz0 hz1 .i64 .i64 _ _ n rfl rfl rfl rfl (by rw [hz2]; omega) (by unfold maxLen; omega) (Nat.le_refl _) ?_; intro w2 hown0 hgrow0)
  have HO0 : Hid (OwnZ w2 w.heap.size (.slice (some ⟨w.heap.size, 0, none⟩) n n) (List.replicate n 0)) := by
    show w2.ownsRow _ _ _ _ _ _
    rw [← made_int, List.length_replicate]
    exact hown0
  have HB2 := Lib.hid ((Below.refl _ w).grown hgrow0 (Nat.le_refl _) (fun k e => by cases e))
  clear hown0 hgrow0
  go_wp2
  go_loopw [4] (fun i wr => ∃ k : Nat, k ≤ n ∧ i = .int .i64 k ∧ OwnZ wr w.heap.size (.slice (some ⟨w.heap.size, 0, none⟩) n n) (zs.take k ++ List.replicate (zs.length - k) 0) ∧ Below w.heap.size w wr) (fun i _ => n - (intOf i).toNat)
  case atStart => exact ⟨0, Nat.zero_le _, rfl, by rw [HL.out]; exact HO0.out, HB2.out⟩
  case round =>
    obtain ⟨k, hk, rfl, ho, hb⟩ := hrel
    have HO := Lib.hid ho
    have HB := Lib.hid hb
    have hsz := hb.size
    clear ho hb
    by_cases hlt : k < n
    · obtain ⟨z, hz⟩ := zs_at H.out hlt
      obtain ⟨b, o, rfl, hbl, c0⟩ := (H.out.below HB.out).at_ k z hz
      have HP := Lib.hid (zs_put hz)
      have hlen : (zs.take k ++ List.replicate (zs.length - k) (0 : Int)).length = n := by simp [HL.out]; omega
      obtain ⟨y, hy⟩ : ∃ y, (zs.take k ++ List.replicate (zs.length - k) (0 : Int))[k]? = some y := ⟨_, List.getElem?_eq_getElem (by omega)⟩
      have hfz := HO.out.frozen k
      have hrd : Zs wr wr.heap.size (some ⟨w.heap.size, 0, none⟩) n (zs.take k ++ List.replicate (zs.length - k) (0 : Int)) := by
        have ho := HO.out
        rw [← hlen] at ho ⊢
        exact ho.reads
      have d0 := (hrd.get hy).2
      rw [Nat.zero_add] at d0
      have i2 : (k : Int) < (n : Int) := by omega
      clear hz hy hrd hlen
      go_wp2
      go_roundw
      case rel => exact ⟨k + 1, by omega, by go_num, by rw [← HP.out]; exact HO.out.put k z, bl_set HB.out (by dsimp only; omega) _⟩
      case measure => simp [intOf]; omega
    · obtain rfl : k = n := by omega
      have hfin : Hid (zs.take k ++ List.replicate (zs.length - k) (0 : Int) = zs) := by
        show _ = _
        rw [HL.out, Nat.sub_self, List.replicate_zero, List.append_nil, List.take_of_length_le (by rw [HL.out]; exact Nat.le_refl _)]
      have HO2 : Hid (OwnZ wr w.heap.size (.slice (some ⟨w.heap.size, 0, none⟩) zs.length k) zs) := by
        have ho := HO.out
        rw [hfin.out] at ho
        show OwnZ _ _ _ _
        rw [HL.out]; exact ho
      go_wp2
      go_ret
      exact ⟨_, k, by rw [HL.out]; rfl, HO2.out, HB.out⟩
end

section
/- Contracts of the marks that the exact laws write into a list of numbers. -/
open Go.RowKit
set_option linter.unusedVariables false

def marksZ (k0 n : Nat) : List Int := (List.range n).map fun j => ((k0 + j : Nat) : Int)
theorem marksZ_len (k0 n : Nat) : (marksZ k0 n).length = n := by simp [marksZ]
theorem marksZ_get {k0 n j : Nat} (h : j < n) : (marksZ k0 n)[j]? = some ((k0 + j : Nat) : Int) := by
  unfold marksZ; rw [List.getElem?_map, List.getElem?_range h]; rfl
theorem marksZ_succ (k0 j : Nat) : marksZ k0 (j + 1) = marksZ k0 j ++ [((k0 + j : Nat) : Int)] := by
  unfold marksZ; rw [List.range_succ, List.map_append]; rfl
theorem marksZ_put {zs : List Int} {k0 j : Nat} (h : j < zs.length) : (marksZ k0 j ++ zs.drop j).set j ((k0 + j : Nat) : Int) = marksZ k0 (j + 1) ++ zs.drop (j + 1) := by
  rw [List.set_append_right _ _ (by rw [marksZ_len]; omega), marksZ_len, Nat.sub_self, List.drop_eq_getElem_cons h, List.set_cons_zero, marksZ_succ, List.append_assoc]
  rfl
def MarkZRes (k0 n B : Nat) (v : Value) (w : World) (e : Ending) (w' : World) : Prop :=
  e = .returned (.int .i64 ((k0 + n : Nat) : Int)) ∧ OwnZ w' B v (marksZ k0 n) ∧ w.grownBy w' v.ownBlock

set_option maxHeartbeats 2000000 in
theorem markZ_own (w : World) (B : Nat) (A : Option Addr) (c k0 : Nat) (zs : List Int) (h : OwnZ w B (.slice A zs.length c) zs) (hn : zs.length ≤ 1048576) (hk0 : k0 ≤ 40000000) :
    Calls Try.prog 46 #[.slice A zs.length c, .int .i64 k0] w (MarkZRes k0 zs.length B (.slice A zs.length c) w) := by
  rcases h.2 with ⟨e, h0⟩ | ⟨g, cap, cur, e, _⟩
  · injection e with e1 e2 e3
    subst e1 e3
    have hnil : zs = [] := List.eq_nil_of_length_eq_zero e2
    subst hnil
    go_enter Try.func46, Try.ntmps46
    go_wp2
    go_loop [1, 5] (fun q i => q = .int .i64 k0 ∧ i = .int .i64 0) (fun _ _ => 0)
    case atStart => exact ⟨rfl, rfl⟩
    case round =>
      obtain ⟨rfl, rfl⟩ := hrel
      go_wp2
      go_ret
      exact ⟨rfl, h, World.grownBy.refl _ _⟩
  · injection e with e1 e2 e3
    subst e1
    obtain ⟨n, hnn⟩ : ∃ n, n = zs.length := ⟨_, rfl⟩
    have H := Lib.hid h
    have HL := Lib.hid hnn
    rw [← hnn] at hn ⊢
    rw [← hnn] at H
    clear h e2 hnn
    go_enter Try.func46, Try.ntmps46
    go_wp2
    go_loopw [1, 5] (fun q i wr => ∃ j : Nat, j ≤ n ∧ i = .int .i64 j ∧ q = .int .i64 ((k0 + j : Nat) : Int) ∧ OwnZ wr B (.slice (some ⟨g, 0, none⟩) n c) (marksZ k0 j ++ zs.drop j) ∧ w.grownBy wr (some g)) (fun _ i _ => n - (intOf i).toNat)
    case atStart => exact ⟨0, Nat.zero_le _, rfl, rfl, H.out, World.grownBy.refl _ _⟩
    case round =>
      obtain ⟨j, hj, rfl, rfl, ho, hg⟩ := hrel
      have HO := Lib.hid ho
      have HG := Lib.hid hg
      clear ho hg
      by_cases hlt : j < n
      · have hjl : j < zs.length := by rw [← HL.out]; exact hlt
        have HP := Lib.hid (marksZ_put (k0 := k0) hjl)
        have hll : Hid ((marksZ k0 j ++ zs.drop j).length = n) := by show _ = _; have := HL.out; simp [marksZ_len]; omega
        obtain ⟨z, hz⟩ : ∃ z, (marksZ k0 j ++ zs.drop j)[j]? = some z := ⟨_, List.getElem?_eq_getElem (by rw [hll.out]; exact hlt)⟩
        have hrd : Zs wr wr.heap.size (some ⟨g, 0, none⟩) (marksZ k0 j ++ zs.drop j).length (marksZ k0 j ++ zs.drop j) := OwnZ.reads (c := c) (by rw [hll.out]; exact HO.out)
        have c0 := (hrd.get hz).2
        rw [Nat.zero_add] at c0
        have hfz := HO.out.frozen
        have hji : (j : Int) < (n : Int) := by omega
        clear hz hrd hjl
        go_wp2
        go_roundw
        case rel =>
          refine ⟨j + 1, by omega, by go_num, by go_num, ?_, ?_⟩
          · rw [← HP.out]
            have hx := HO.out.put j ((k0 + j : Nat) : Int)
            exact hx
          · repeat (first | exact HG.out | refine gb_set ?_ (.inl rfl) _)
        case measure => simp [intOf]; omega
      · obtain rfl : j = n := by omega
        go_wp2
        go_ret
        exact ⟨rfl, by have h := HO.out; rw [List.drop_eq_nil_of_le (by rw [← HL.out]; omega), List.append_nil] at h; exact h, HG.out⟩

set_option maxHeartbeats 2000000 in
theorem heldZ_any (w : World) (A : Option Addr) (n c k0 : Nat) (h : Zs w w.heap.size A n (marksZ k0 n)) (hn : n ≤ 1048576) (hk0 : k0 ≤ 10) :
    Calls Try.prog 47 #[.slice A n c, .int .i64 k0] w fun e w' => e = .returned (.int .i64 ((k0 + n : Nat) : Int)) ∧ w = w' := by
  have H := Lib.hid h
  clear h
  go_enter Try.func47, Try.ntmps47
  go_wp2
  go_loop [1, 5] (fun q i => ∃ j : Nat, j ≤ n ∧ i = .int .i64 j ∧ q = .int .i64 ((k0 + j : Nat) : Int)) (fun _ i => n - (intOf i).toNat)
  case atStart => exact ⟨0, Nat.zero_le _, rfl, rfl⟩
  case round =>
    obtain ⟨j, hj, rfl, rfl⟩ := hrel
    by_cases hlt : j < n
    · obtain ⟨b, o, rfl, hbl, c0⟩ := H.out.at_ j _ (marksZ_get hlt)
      have e0 : w.cell? ⟨b, o + j, none⟩ = some (.int .i64 ((k0 : Int) + (j : Int))) := c0
      clear c0
      have hji : (j : Int) < (n : Int) := by omega
      go_wp2
      go_round
      case rel => exact ⟨j + 1, by omega, by go_num, by go_num⟩
      case measure => simp [intOf]; omega
    · obtain rfl : j = n := by omega
      go_wp2
      go_ret
      exact ⟨rfl, rfl⟩
end

section
/- Orders of tasks as plain data: what holds last, orders that are found, all orders (no program text). -/
open Go.RowKit
set_option linter.unusedVariables false

/-- Whether a task holds in both modes behind other tasks. -/
def bothL (xs : List Tk) (t : Tk) : Bool :=
  match respOf xs t.lo.toNat t.du.toNat with
  | none => false
  | some l => !t.cr || (swiOf xs l t.hi.toNat t.du.toNat).isSome
theorem both_is {ts : List Tk} {k : Nat} {t : Tk} (hs : setB ts = true) (ht : ts[k]? = some t) : bothAt ts k = bothL (ts.take k) t := by
  unfold bothL
  have hr := rLow_at hs ht
  cases hc : t.cr
  · rw [both_no ht hc, hr]
    cases respOf (ts.take k) t.lo.toNat t.du.toNat <;> rfl
  · rw [both_cr ht hc]
    cases hx : respOf (ts.take k) t.lo.toNat t.du.toNat with
    | none => rw [rSwi_none (hr.trans hx)]; rfl
    | some l => rw [rSwi_at (hr.trans hx) ht hc]; simp
def Holds (ts : List Tk) : Prop := ∀ k t, ts[k]? = some t → bothL (ts.take k) t = true
theorem hBoth_holds {ts : List Tk} : hBoth ts = true ↔ setB ts = true ∧ Holds ts := by
  rw [hBoth_iff]
  constructor
  · rintro ⟨h1, h2⟩
    exact ⟨h1, fun k t ht => by rw [← both_is h1 ht]; exact h2 k (List.getElem?_eq_some_iff.1 ht).1⟩
  · rintro ⟨h1, h2⟩
    refine ⟨h1, fun k hk => ?_⟩
    obtain ⟨t, ht⟩ := get_at (n := ts.length) rfl hk
    rw [both_is h1 ht]
    exact h2 k t ht
theorem sum_perm_nat {f : Tk → Nat} {xs ys : List Tk} (h : xs.Perm ys) : (xs.map f).sum = (ys.map f).sum := (h.map f).sum_nat
theorem bothL_perm {xs ys : List Tk} (h : xs.Perm ys) (t : Tk) : bothL xs t = bothL ys t := by
  unfold bothL respOf swiOf dLow dSwi
  simp only [sum_perm_nat h]
theorem bothL_sub {xs ys : List Tk} (h : xs.Sublist ys) {t : Tk} (hb : bothL ys t = true) : bothL xs t = true := by
  unfold bothL at hb ⊢
  cases hy : respOf ys t.lo.toNat t.du.toNat with
  | none => rw [hy] at hb; cases hb
  | some l =>
    rw [hy] at hb
    obtain ⟨l', hl', hle⟩ := least_less (G := fun w => t.lo.toNat + dLow xs w) (lo' := t.lo.toNat) (hi' := t.du.toNat) (fun v _ _ => Nat.add_le_add_left (sum_sub (fun t => dmd t v false) h) _) (Nat.le_refl _) (Nat.le_refl _) hy
    have hl2 : respOf xs t.lo.toNat t.du.toNat = some l' := hl'
    rw [hl2]
    cases hc : t.cr
    · rfl
    · rw [hc] at hb
      simp only [Bool.not_true, Bool.false_or] at hb ⊢
      obtain ⟨v, hv⟩ := some_of hb
      obtain ⟨v', hv', _⟩ := least_less (G := fun w => t.hi.toNat + dSwi xs l' w) (lo' := t.hi.toNat) (hi' := t.du.toNat) (fun w _ _ => Nat.add_le_add_left (Nat.le_trans (sum_le (g := dmS l w) fun u _ => by
        unfold dmS; split
        · exact Nat.le_refl _
        · exact dmd_mono u false hle) (sum_sub (dmS l w) h)) _) (Nat.le_refl _) (Nat.le_refl _) hv
      have : swiOf xs l' t.hi.toNat t.du.toNat = some v' := hv'
      rw [this]; rfl
theorem holds_nil : Holds [] := fun k t h => by simp at h
theorem holds_snoc {xs : List Tk} {t : Tk} : Holds (xs ++ [t]) ↔ Holds xs ∧ bothL xs t = true := by
  constructor
  · intro h
    refine ⟨fun k u hu => ?_, ?_⟩
    · have hk := (List.getElem?_eq_some_iff.1 hu).1
      have := h k u (by rw [List.getElem?_append_left hk]; exact hu)
      rwa [List.take_append_of_le_length (by omega)] at this
    · have := h xs.length t (by simp)
      rwa [List.take_left] at this
  · rintro ⟨h1, h2⟩ k u hu
    rcases Nat.lt_or_ge k xs.length with hk | hk
    · rw [List.getElem?_append_left hk] at hu
      rw [List.take_append_of_le_length (by omega)]
      exact h1 k u hu
    · rw [List.getElem?_append_right hk] at hu
      have hk2 : k - xs.length = 0 := by
        have := (List.getElem?_eq_some_iff.1 hu).1
        simp at this; omega
      rw [hk2] at hu
      simp at hu
      subst hu
      obtain rfl : k = xs.length := by omega
      rw [List.take_left]; exact h2
theorem snoc_of {α : Type} : ∀ {xs : List α}, xs ≠ [] → ∃ ys y, xs = ys ++ [y]
  | xs, h => ⟨xs.dropLast, xs.getLast h, (List.dropLast_concat_getLast h).symm⟩
theorem holds_sub : ∀ {n : Nat} {xs ys : List Tk}, ys.length = n → xs.Sublist ys → Holds ys → Holds xs
  | 0, xs, ys, hn, hs, hy => by
    obtain rfl : ys = [] := List.eq_nil_of_length_eq_zero hn
    obtain rfl : xs = [] := by simpa using hs
    exact holds_nil
  | n + 1, xs, ys, hn, hs, hy => by
    obtain ⟨ys', y, rfl⟩ := snoc_of (xs := ys) (by rintro rfl; simp at hn)
    obtain ⟨h1, h2⟩ := holds_snoc.1 hy
    have hl : ys'.length = n := by simpa using hn
    rw [List.sublist_append_iff] at hs
    obtain ⟨a, b, rfl, ha, hb⟩ := hs
    cases b with
    | nil => rw [List.append_nil]; exact holds_sub hl ha h1
    | cons c b =>
      have hlen := hb.length_le
      simp at hlen
      subst hlen
      have hc : c = y := by simpa using hb
      subst hc
      exact holds_snoc.2 ⟨holds_sub hl ha h1, bothL_sub ha h2⟩
theorem holds_perm_last {xs ys : List Tk} {t : Tk} (h : xs.Perm ys) (hx : Holds xs) (hb : bothL ys t = true) : Holds (xs ++ [t]) := holds_snoc.2 ⟨hx, by rw [bothL_perm h]; exact hb⟩

/-- Whether a task can be last. -/
def canL (ts : List Tk) (k : Nat) : Bool :=
  match ts[k]? with
  | some t => setB ts && bothL (ts.eraseIdx k) t
  | none => false
def endOf (ts : List Tk) (k : Nat) (t : Tk) : List Tk := ts.eraseIdx k ++ [t]
theorem erase_perm {ts : List Tk} {k : Nat} {t : Tk} (h : ts[k]? = some t) : (t :: ts.eraseIdx k).Perm ts := by
  obtain ⟨hk, rfl⟩ := List.getElem?_eq_some_iff.1 h
  rw [List.eraseIdx_eq_take_drop_succ]
  have : ts = ts.take k ++ ts[k] :: ts.drop (k + 1) := by rw [← List.drop_eq_getElem_cons hk, List.take_append_drop]
  exact (List.perm_middle.symm).trans (List.Perm.of_eq this.symm)
theorem end_perm {ts : List Tk} {k : Nat} {t : Tk} (h : ts[k]? = some t) : (endOf ts k t).Perm ts := List.perm_append_comm.trans (erase_perm h)
theorem set_perm {xs ys : List Tk} (h : xs.Perm ys) : setB xs = setB ys := by
  unfold setB
  rw [h.length_eq]
  congr 1
  rw [Bool.eq_iff_iff, List.all_eq_true, List.all_eq_true]
  exact ⟨fun g x hx => g x (h.mem_iff.2 hx), fun g x hx => g x (h.mem_iff.1 hx)⟩
theorem end_last {ts : List Tk} {k : Nat} {t : Tk} (h : ts[k]? = some t) : (endOf ts k t)[ts.length - 1]? = some t ∧ (endOf ts k t).take (ts.length - 1) = ts.eraseIdx k ∧ (endOf ts k t).length = ts.length := by
  have hk := (List.getElem?_eq_some_iff.1 h).1
  have hl : (ts.eraseIdx k).length = ts.length - 1 := by rw [List.length_eraseIdx, if_pos hk]
  unfold endOf
  refine ⟨?_, ?_, ?_⟩
  · rw [List.getElem?_append_right (by omega), hl, Nat.sub_self]; rfl
  · rw [← hl, List.take_left]
  · rw [List.length_append, hl]; simp; omega
theorem can_end {ts : List Tk} {k : Nat} {t : Tk} (hs : setB ts = true) (h : ts[k]? = some t) : canL ts k = bothAt (endOf ts k t) (ts.length - 1) := by
  obtain ⟨h1, h2, _⟩ := end_last h
  rw [both_is (by rw [set_perm (end_perm h)]; exact hs) h1, h2]
  unfold canL
  rw [h, hs]; rfl
theorem can_bad {ts : List Tk} (k : Nat) (hs : setB ts = false) : canL ts k = false := by unfold canL; split <;> simp [hs]
theorem can_past {ts : List Tk} {k : Nat} (h : ts[k]? = none) : canL ts k = false := by unfold canL; rw [h]
theorem can_at {ts : List Tk} {k : Nat} {t : Tk} (hs : setB ts = true) (h : ts[k]? = some t) : canL ts k = bothL (ts.eraseIdx k) t := by unfold canL; rw [h, hs]; rfl

/-- Tasks in an order. -/
instance : Inhabited Tk := ⟨⟨0, 0, 0, 0, false⟩⟩
def putN (ts : List Tk) (o : List Nat) : List Tk := o.map fun i => ts.getD i default
theorem put_range (ts : List Tk) : putN ts (List.range ts.length) = ts := by
  refine List.ext_getElem? fun i => ?_
  unfold putN
  rw [List.getElem?_map]
  rcases Nat.lt_or_ge i ts.length with h | h
  · rw [List.getElem?_range h, Option.map_some, List.getD_eq_getElem?_getD, List.getElem?_eq_getElem h]; rfl
  · rw [List.getElem?_eq_none (by simpa using h), List.getElem?_eq_none h]; rfl
theorem put_perm {ts : List Tk} {o p : List Nat} (h : o.Perm p) : (putN ts o).Perm (putN ts p) := h.map _
theorem put_len (ts : List Tk) (o : List Nat) : (putN ts o).length = o.length := by simp [putN]
theorem put_get {ts : List Tk} {o : List Nat} {i x : Nat} {t : Tk} (h : o[i]? = some x) (ht : ts[x]? = some t) : (putN ts o)[i]? = some t := by
  unfold putN
  rw [List.getElem?_map, h, Option.map_some, List.getD_eq_getElem?_getD, ht]; rfl
theorem put_all {ts : List Tk} {o : List Nat} (h : o.Perm (List.range ts.length)) : (putN ts o).Perm ts := (put_perm h).trans (List.Perm.of_eq (put_range ts))
theorem put_erase (ts : List Tk) (o : List Nat) (k : Nat) : putN ts (o.eraseIdx k) = (putN ts o).eraseIdx k := by
  unfold putN
  rw [List.eraseIdx_eq_take_drop_succ, List.eraseIdx_eq_take_drop_succ, List.map_append, List.map_take, List.map_drop]
theorem put_app (ts : List Tk) (o p : List Nat) : putN ts (o ++ p) = putN ts o ++ putN ts p := by simp [putN]
/-- What is a permutation of an image comes from a permutation. -/
theorem perm_from {α β : Type} [DecidableEq α] (f : α → β) : ∀ (us : List β) (l : List α), us.Perm (l.map f) → ∃ p : List α, p.Perm l ∧ p.map f = us
  | [], l, h => by
    have : l = [] := by simpa using h.symm
    exact ⟨[], by rw [this], rfl⟩
  | u :: us, l, h => by
    have hm : u ∈ l.map f := h.mem_iff.1 (by simp)
    obtain ⟨x, hx, rfl⟩ := List.mem_map.1 hm
    have hp : l.Perm (x :: l.erase x) := List.perm_cons_erase hx
    have h2 := (h.trans (hp.map f))
    rw [List.map_cons] at h2
    obtain ⟨p, hp1, hp2⟩ := perm_from f us (l.erase x) h2.cons_inv
    exact ⟨x :: p, (hp1.cons x).trans hp.symm, by rw [List.map_cons, hp2]⟩
theorem put_from {ts us : List Tk} (h : us.Perm ts) : ∃ p, p.Perm (List.range ts.length) ∧ putN ts p = us := by
  rw [← put_range ts] at h
  obtain ⟨p, h1, h2⟩ := perm_from (fun i => ts.getD i default) us (List.range (putN ts (List.range ts.length)).length) (by
    have : (putN ts (List.range ts.length)).length = ts.length := by rw [put_len]; simp
    rw [this]
    exact h)
  rw [put_len, List.length_range] at h1
  exact ⟨p, h1, h2⟩

/-- The last place that can be last. -/
def pickL (ts : List Tk) (left : List Nat) : Option Nat := (List.range left.length).reverse.find? fun i => canL (putN ts left) i
def asg (ts : List Tk) : Nat → List Nat → List Nat → Option (List Nat)
  | 0, _, acc => some acc
  | n + 1, left, acc =>
    match pickL ts left with
    | none => none
    | some i => asg ts n (left.eraseIdx i) (left.getD i 0 :: acc)
def assignOf (ts : List Tk) : Option (List Nat) := if setB ts then asg ts ts.length (List.range ts.length) [] else none

theorem find_rev {p : Nat → Bool} : ∀ {n i : Nat}, (List.range n).reverse.find? p = some i ↔ i < n ∧ p i = true ∧ ∀ j, i < j → j < n → p j = false
  | 0, i => by simp
  | n + 1, i => by
    rw [List.range_succ, List.reverse_append, List.reverse_singleton, List.singleton_append, List.find?_cons]
    cases hp : p n
    · rw [find_rev (n := n)]
      constructor
      · rintro ⟨h1, h2, h3⟩
        refine ⟨by omega, h2, fun j hj hn => ?_⟩
        rcases Nat.lt_or_ge j n with h | h
        · exact h3 j hj h
        · obtain rfl : j = n := by omega
          exact hp
      · rintro ⟨h1, h2, h3⟩
        have : i ≠ n := by rintro rfl; rw [hp] at h2; cases h2
        exact ⟨by omega, h2, fun j hj hn => h3 j hj (by omega)⟩
    · simp only [Option.some.injEq]
      constructor
      · rintro rfl; exact ⟨by omega, hp, fun j h1 h2 => by omega⟩
      · rintro ⟨h1, h2, h3⟩
        rcases Nat.lt_or_ge i n with h | h
        · have := h3 n h (by omega); rw [hp] at this; cases this
        · omega
theorem pick_some {ts : List Tk} {left : List Nat} {i : Nat} (h : pickL ts left = some i) : i < left.length ∧ canL (putN ts left) i = true ∧ ∀ j, i < j → j < left.length → canL (putN ts left) j = false := find_rev.1 h
theorem pick_none {ts : List Tk} {left : List Nat} (h : pickL ts left = none) : ∀ i, i < left.length → canL (putN ts left) i = false := by
  unfold pickL at h
  rw [List.find?_eq_none] at h
  intro i hi
  have := h i (by simpa using hi)
  simpa using this
theorem nat_erase {l : List Nat} {k x : Nat} (h : l[k]? = some x) : (x :: l.eraseIdx k).Perm l := by
  obtain ⟨hk, rfl⟩ := List.getElem?_eq_some_iff.1 h
  rw [List.eraseIdx_eq_take_drop_succ]
  have : l = l.take k ++ l[k] :: l.drop (k + 1) := by rw [← List.drop_eq_getElem_cons hk, List.take_append_drop]
  exact (List.perm_middle.symm).trans (List.Perm.of_eq this.symm)
theorem nat_at {l : List Nat} {k : Nat} (h : k < l.length) : l[k]? = some (l.getD k 0) := by
  rw [List.getD_eq_getElem?_getD, List.getElem?_eq_getElem h]; rfl
/-- What is found holds. -/
theorem asg_some (ts : List Tk) : ∀ {n : Nat} {left acc o : List Nat}, left.length = n → asg ts n left acc = some o → ∃ p, o = p ++ acc ∧ p.Perm left ∧ Holds (putN ts p)
  | 0, left, acc, o, hn, h => by
    obtain rfl : left = [] := List.eq_nil_of_length_eq_zero hn
    exact ⟨[], by simpa [asg] using h.symm, List.Perm.refl _, holds_nil⟩
  | n + 1, left, acc, o, hn, h => by
    unfold asg at h
    cases hp : pickL ts left with
    | none => rw [hp] at h; cases h
    | some i =>
      rw [hp] at h
      obtain ⟨hi, hc, _⟩ := pick_some hp
      have hx := nat_at hi
      have hlen : (left.eraseIdx i).length = n := by rw [List.length_eraseIdx, if_pos hi]; omega
      obtain ⟨p, rfl, h2, h3⟩ := asg_some ts hlen h
      have hs : setB (putN ts left) = true := by
        cases hs : setB (putN ts left)
        · rw [can_bad _ hs] at hc; cases hc
        · rfl
      have hget : (putN ts left)[i]? = some (ts.getD (left.getD i 0) default) := by unfold putN; rw [List.getElem?_map, hx]; rfl
      rw [can_at hs hget, ← put_erase] at hc
      refine ⟨p ++ [left.getD i 0], by simp, ?_, ?_⟩
      · exact (List.perm_append_comm.trans (h2.cons _)).trans (nat_erase hx)
      · rw [put_app]
        exact holds_perm_last (put_perm h2) h3 hc
/-- If there is none that holds, none is found; else one is. -/
theorem asg_none (ts : List Tk) : ∀ {n : Nat} {left acc : List Nat}, left.length = n → setB (putN ts left) = true → asg ts n left acc = none → ∀ p, p.Perm left → ¬ Holds (putN ts p)
  | 0, left, acc, hn, hs, h => by simp [asg] at h
  | n + 1, left, acc, hn, hs, h => by
    intro p hp hh
    unfold asg at h
    cases hpk : pickL ts left with
    | none =>
      obtain ⟨p', x, rfl⟩ := snoc_of (xs := p) (by rintro rfl; have := hp.length_eq; simp at this; omega)
      obtain ⟨i, hi⟩ := List.mem_iff_getElem?.1 (hp.mem_iff.1 (show x ∈ p' ++ [x] by simp))
      have hil := (List.getElem?_eq_some_iff.1 hi).1
      have hper : p'.Perm (left.eraseIdx i) := (((List.perm_append_comm (l₁ := [x]) (l₂ := p')).trans hp).trans (nat_erase hi).symm).cons_inv
      rw [put_app] at hh
      have hb := (holds_snoc.1 hh).2
      have hget : (putN ts left)[i]? = some (ts.getD x default) := by unfold putN; rw [List.getElem?_map, hi]; rfl
      have hno := pick_none hpk i hil
      rw [can_at hs hget, ← put_erase, ← bothL_perm (put_perm hper)] at hno
      rw [hno] at hb; cases hb
    | some i =>
      rw [hpk] at h
      obtain ⟨hi, _, _⟩ := pick_some hpk
      have hx := nat_at hi
      have hlen : (left.eraseIdx i).length = n := by rw [List.length_eraseIdx, if_pos hi]; omega
      have hs2 : setB (putN ts (left.eraseIdx i)) = true := by rw [put_erase]; exact set_sub hs (List.eraseIdx_sublist _ _)
      have hm : left.getD i 0 ∈ p := hp.mem_iff.2 (List.mem_of_getElem? hx)
      have hper : (p.erase (left.getD i 0)).Perm (left.eraseIdx i) := (((List.perm_cons_erase hm).symm.trans hp).trans (nat_erase hx).symm).cons_inv
      refine asg_none ts hlen hs2 h _ hper ?_
      exact holds_sub rfl ((List.erase_sublist).map _) hh
/-- Whether there is an order. -/
def Can (ts : List Tk) : Prop := ∃ us : List Tk, us.Perm ts ∧ Holds us
theorem can_order {ts : List Tk} : Can ts ↔ ∃ p, p.Perm (List.range ts.length) ∧ Holds (putN ts p) := by
  constructor
  · rintro ⟨us, h1, h2⟩
    obtain ⟨p, h3, rfl⟩ := put_from h1
    exact ⟨p, h3, h2⟩
  · rintro ⟨p, h1, h2⟩
    exact ⟨_, put_all h1, h2⟩
theorem assign_some {ts : List Tk} {o : List Nat} (h : assignOf ts = some o) : setB ts = true ∧ o.Perm (List.range ts.length) ∧ Holds (putN ts o) := by
  unfold assignOf at h
  cases hs : setB ts
  · rw [hs] at h; cases h
  · rw [if_pos hs] at h
    obtain ⟨p, rfl, h1, h2⟩ := asg_some ts (by simp) h
    rw [List.append_nil]
    exact ⟨rfl, h1, h2⟩
theorem assign_iff {ts : List Tk} (hs : setB ts = true) : (assignOf ts).isSome = true ↔ Can ts := by
  rw [can_order]
  constructor
  · intro h
    obtain ⟨o, ho⟩ := Option.isSome_iff_exists.1 h
    exact ⟨o, (assign_some ho).2⟩
  · rintro ⟨p, h1, h2⟩
    cases h : assignOf ts with
    | some o => rfl
    | none =>
      unfold assignOf at h
      rw [if_pos hs] at h
      exact absurd h2 (asg_none ts (by simp) (by rw [put_range]; exact hs) h p h1)
theorem can_perm {xs ys : List Tk} (h : xs.Perm ys) : Can xs ↔ Can ys := ⟨fun ⟨us, a, b⟩ => ⟨us, a.trans h, b⟩, fun ⟨us, a, b⟩ => ⟨us, a.trans h.symm, b⟩⟩
/-- Fewer tasks have an order. -/
theorem can_less {t : Tk} {ts : List Tk} (h : Can (t :: ts)) : Can ts := by
  obtain ⟨us, h1, h2⟩ := h
  have hm : t ∈ us := h1.mem_iff.2 (by simp)
  obtain ⟨a, b, rfl⟩ := List.append_of_mem hm
  refine ⟨a ++ b, ?_, holds_sub rfl ?_ h2⟩
  · exact ((List.perm_middle.symm).trans h1).cons_inv
  · exact (List.Sublist.refl a).append (List.sublist_cons_self t b)
end

section
/- All orders of tasks, one after another (no program text). -/
open Go.RowKit
set_option linter.unusedVariables false

/-- All lists of numbers below n that begin with b, each number once: m numbers more. -/
def allP (n : Nat) : Nat → List Nat → List (List Nat)
  | 0, b => [b]
  | m + 1, b => (List.range n).flatMap fun i => if b.contains i then [] else allP n m (b ++ [i])
def allOf (n : Nat) : List (List Nat) := allP n n []
def anyOf (ts : List Tk) : Option (List Nat) := if setB ts then (allOf ts.length).find? fun o => hBoth (putN ts o) else none
def cntOf (ts : List Tk) : Nat := if setB ts then ((allOf ts.length).filter fun o => hBoth (putN ts o)).length else 0

theorem nodup_range (n : Nat) : (List.range n).Nodup := List.nodup_range
theorem mem_all {n : Nat} : ∀ {m : Nat} {b c : List Nat}, c.length = m → (b ++ c).Perm (List.range n) → b ++ c ∈ allP n m b
  | 0, b, c, hc, h => by
    obtain rfl : c = [] := List.eq_nil_of_length_eq_zero hc
    simp [allP]
  | m + 1, b, c, hc, h => by
    cases c with
    | nil => cases hc
    | cons i c =>
      have hi : i < n := List.mem_range.1 (h.mem_iff.1 (by simp))
      have hnd : (b ++ i :: c).Nodup := h.nodup_iff.2 (nodup_range n)
      have hib : b.contains i = false := by
        rw [List.nodup_append] at hnd
        cases hcb : b.contains i
        · rfl
        · exact absurd rfl (hnd.2.2 i (by simpa using hcb) i (by simp))
      unfold allP
      rw [List.mem_flatMap]
      refine ⟨i, List.mem_range.2 hi, ?_⟩
      rw [hib]
      have hbc : b ++ i :: c = (b ++ [i]) ++ c := by simp
      have := mem_all (n := n) (m := m) (b := b ++ [i]) (c := c) (by simpa using hc) (by rw [← hbc]; exact h)
      rw [hbc]
      simpa using this
theorem mem_allOf {n : Nat} {o : List Nat} (h : o.Perm (List.range n)) : o ∈ allOf n := by
  have := mem_all (n := n) (m := n) (b := []) (c := o) (by have := h.length_eq; simpa using this) (by simpa using h)
  rw [List.nil_append] at this
  exact this
set_option maxRecDepth 100000 in
theorem all_perm : ∀ {n : Nat}, n ≤ 5 → ∀ {o : List Nat}, o ∈ allOf n → o.Perm (List.range n) := by
  have h : ∀ n, n < 6 → (allOf n).all (fun o => o.isPerm (List.range n)) = true := by decide +kernel
  intro n hn o ho
  exact List.isPerm_iff.1 (List.all_eq_true.1 (h n (by omega)) o ho)
set_option maxRecDepth 100000 in
theorem all_head : ∀ {n : Nat}, n ≤ 5 → ∃ rest, allOf n = List.range n :: rest := by
  have h : ∀ n, n < 6 → (allOf n).head? = some (List.range n) := by decide +kernel
  intro n hn
  have := h n (by omega)
  cases hc : allOf n with
  | nil => rw [hc] at this; cases this
  | cons a r =>
    rw [hc] at this
    exact ⟨r, by rw [Option.some.inj this]⟩
set_option maxRecDepth 100000 in
theorem all_count : ∀ {n : Nat}, n ≤ 5 → (allOf n).length = [1, 1, 2, 6, 24, 120].getD n 0 := by
  have h : ∀ n, n < 6 → (allOf n).length = [1, 1, 2, 6, 24, 120].getD n 0 := by decide +kernel
  intro n hn
  exact h n (by omega)
/-- Which of two lists comes first, by the first number that differs. -/
def lexB : List Nat → List Nat → Bool
  | a :: x, b :: y => decide (a < b) || (a == b && lexB x y)
  | _, _ => false
def sortedB : List (List Nat) → Bool
  | a :: r => r.all (lexB a) && sortedB r
  | [] => true
theorem lexB_asym : ∀ {x y : List Nat}, lexB x y = true → lexB y x = false
  | [], [], _ => rfl
  | [], b :: y, h => by simp [lexB] at h
  | a :: x, [], h => by simp [lexB] at h
  | a :: x, b :: y, h => by
    simp only [lexB, Bool.or_eq_true, decide_eq_true_iff, Bool.and_eq_true, beq_iff_eq] at h
    simp only [lexB, Bool.or_eq_false_iff, decide_eq_false_iff_not, Bool.and_eq_false_iff, beq_eq_false_iff_ne]
    rcases h with h | ⟨rfl, h⟩
    · exact ⟨by omega, .inl (by omega)⟩
    · exact ⟨by omega, .inr (lexB_asym h)⟩
theorem sorted_find {p : List Nat → Bool} : ∀ {l : List (List Nat)} {o o' : List Nat}, sortedB l = true → l.find? p = some o → o' ∈ l → lexB o' o = true → p o' = false
  | [], o, o', _, h, _, _ => by cases h
  | a :: r, o, o', hs, h, hm, hx => by
    simp only [sortedB, Bool.and_eq_true] at hs
    rw [List.find?_cons] at h
    cases hp : p a
    · rw [hp] at h
      rcases List.mem_cons.1 hm with rfl | hm
      · exact hp
      · exact sorted_find hs.2 h hm hx
    · rw [hp] at h
      have he : a = o := Option.some.inj h
      subst he
      rcases List.mem_cons.1 hm with rfl | hm
      · rw [lexB_asym hx] at hx; cases hx
      · have := List.all_eq_true.1 hs.1 o' hm
        rw [lexB_asym this] at hx; cases hx
set_option maxRecDepth 100000 in
theorem all_sorted : ∀ {n : Nat}, n ≤ 5 → sortedB (allOf n) = true := by
  have h : ∀ n, n < 6 → sortedB (allOf n) = true := by decide +kernel
  intro n hn
  exact h n (by omega)
def turnO (n : Nat) (o : List Nat) : List Nat := o.map fun i => n - 1 - i
set_option maxRecDepth 100000 in
theorem all_turn : ∀ {n : Nat}, n ≤ 5 → ((allOf n).map (turnO n)).Perm (allOf n) := by
  have h : ∀ n, n < 6 → ((allOf n).map (turnO n)).isPerm (allOf n) = true := by decide +kernel
  intro n hn
  exact List.isPerm_iff.1 (h n (by omega))

/-- The first order that holds. -/
theorem any_some {ts : List Tk} {o : List Nat} (h : anyOf ts = some o) : setB ts = true ∧ o.Perm (List.range ts.length) ∧ hBoth (putN ts o) = true := by
  unfold anyOf at h
  cases hs : setB ts
  · rw [hs] at h; cases h
  · rw [if_pos hs] at h
    exact ⟨rfl, all_perm (setB_len hs) (List.mem_of_find?_eq_some h), List.find?_some (p := fun o => hBoth (putN ts o)) h⟩
theorem any_iff {ts : List Tk} (hs : setB ts = true) : (anyOf ts).isSome = true ↔ Can ts := by
  rw [can_order]
  unfold anyOf
  rw [if_pos hs, List.find?_isSome]
  constructor
  · rintro ⟨o, ho, hp⟩
    exact ⟨o, all_perm (setB_len hs) ho, (hBoth_holds.1 hp).2⟩
  · rintro ⟨p, h1, h2⟩
    exact ⟨p, mem_allOf h1, hBoth_holds.2 ⟨by rw [set_perm (put_all h1)]; exact hs, h2⟩⟩
theorem any_bad {ts : List Tk} (hs : setB ts = false) : anyOf ts = none := by unfold anyOf; rw [hs]; rfl
theorem cnt_bad {ts : List Tk} (hs : setB ts = false) : cntOf ts = 0 := by unfold cntOf; rw [hs]; rfl
theorem assign_bad {ts : List Tk} (hs : setB ts = false) : assignOf ts = none := by unfold assignOf; rw [hs]; rfl
theorem assign_any (ts : List Tk) : (assignOf ts).isSome = (anyOf ts).isSome := by
  cases hs : setB ts
  · rw [assign_bad hs, any_bad hs]
  · rw [Bool.eq_iff_iff, assign_iff hs, any_iff hs]
theorem any_self {ts : List Tk} (h : hBoth ts = true) : anyOf ts = some (List.range ts.length) := by
  have hs := (hBoth_iff.1 h).1
  obtain ⟨r, hr⟩ := all_head (setB_len hs)
  unfold anyOf
  rw [if_pos hs, hr, List.find?_cons, put_range, h]
theorem any_first {ts : List Tk} {o o' : List Nat} (h : anyOf ts = some o) (hp : o'.Perm (List.range ts.length)) (hx : lexB o' o = true) : hBoth (putN ts o') = false := by
  have hs := (any_some h).1
  unfold anyOf at h
  rw [if_pos hs] at h
  exact sorted_find (all_sorted (setB_len hs)) h (mem_allOf hp) hx
theorem cnt_any (ts : List Tk) : decide (0 < cntOf ts) = (anyOf ts).isSome := by
  cases hs : setB ts
  · rw [cnt_bad hs, any_bad hs]; rfl
  · unfold cntOf anyOf
    rw [if_pos hs, if_pos hs, Bool.eq_iff_iff, decide_eq_true_iff, List.find?_isSome, List.length_pos_iff_exists_mem]
    constructor
    · rintro ⟨o, ho⟩
      rw [List.mem_filter] at ho
      exact ⟨o, ho.1, ho.2⟩
    · rintro ⟨o, h1, h2⟩
      exact ⟨o, List.mem_filter.2 ⟨h1, h2⟩⟩
theorem cnt_most {ts : List Tk} : cntOf ts ≤ [1, 1, 2, 6, 24, 120].getD ts.length 0 ∨ setB ts = false := by
  cases hs : setB ts
  · exact .inr rfl
  · refine .inl ?_
    unfold cntOf
    rw [if_pos hs, ← all_count (setB_len hs)]
    exact List.length_filter_le _ _
theorem put_turn {ts : List Tk} {o : List Nat} (h : ∀ i ∈ o, i < ts.length) : putN ts.reverse o = putN ts (turnO ts.length o) := by
  unfold putN turnO
  rw [List.map_map]
  refine List.map_congr_left fun i hi => ?_
  have := h i hi
  simp only [Function.comp, List.getD_eq_getElem?_getD]
  rw [List.getElem?_reverse this]
theorem cnt_turn (ts : List Tk) : cntOf ts.reverse = cntOf ts := by
  unfold cntOf
  rw [set_perm (List.reverse_perm ts), List.length_reverse]
  cases hs : setB ts
  · rfl
  · rw [if_pos rfl, if_pos rfl]
    have hl := setB_len hs
    have h1 : (allOf ts.length).filter (fun o => hBoth (putN ts.reverse o)) = (allOf ts.length).filter (fun o => hBoth (putN ts (turnO ts.length o))) := by
      refine List.filter_congr fun o ho => ?_
      rw [put_turn fun i hi => List.mem_range.1 ((all_perm hl ho).mem_iff.1 hi)]
    rw [h1]
    have h2 : ((allOf ts.length).filter (fun o => hBoth (putN ts (turnO ts.length o)))).length = (((allOf ts.length).map (turnO ts.length)).filter fun o => hBoth (putN ts o)).length := by
      rw [List.filter_map, List.length_map]; rfl
    rw [h2]
    exact ((all_turn hl).filter _).length_eq
end

section
/- Contracts of the reference's OrderValid and PutOrder. Nothing that was there is written. -/
open Go.RowKit
set_option linter.unusedVariables false

theorem info_bool : (Try.prog.info? 4).map (fun i => (i.zero, i.size, i.bytes)) = some (some (.bool false), 1, 1) := by kernel_rfl
/-- Which numbers have been seen. -/
def seenL (zs : List Int) (n : Nat) : List Value := (List.range n).map fun (x : Nat) => Value.bool (zs.contains (Int.ofNat x))
theorem blk_of_own1 {w : World} {B g n : Nat} {e : TypeId} {xs : List Value} (h : w.ownsRow B e 1 (.slice (some ⟨g, 0, none⟩) n n) n xs) : Blk w g e xs.toArray := by
  rcases h.2 with ⟨e0, h0⟩ | ⟨g', cap, cur, e0, _, hg, h1, h2, h3, h4⟩
  · injection e0 with e1; cases e1
  · injection e0 with e1 e2 e3
    injection e1 with e1
    injection e1 with e1
    subst e1 e3
    have hc : cur.toList = xs := by
      rw [List.take_of_length_le (by rw [Array.length_toList, h3]; exact Nat.le_refl _)] at h4
      exact h4
    rw [← hc]
    exact hg
theorem made_bool (n : Nat) : (madeCells (Value.bool false).cells (n * 1)).toList = seenL [] n := by
  unfold madeCells seenL
  rw [Array.toList_map, Array.toList_range, Nat.mul_one]
  refine List.map_congr_left fun j _ => ?_
  show (#[Value.bool false])[j % 1]! = _
  rw [Nat.mod_one]; rfl
theorem seen_get {zs : List Int} {n x : Nat} (h : x < n) : ((seenL zs n).toArray)[x]? = some (.bool (zs.contains (x : Int))) := by
  simp [seenL, h]
theorem seen_set {zs : List Int} {n k x : Nat} (h : zs[k]? = some (x : Int)) : (seenL (zs.take k) n).toArray.setIfInBounds x (.bool true) = (seenL (zs.take (k + 1)) n).toArray := by
  have ht : zs.take (k + 1) = zs.take k ++ [(x : Int)] := by rw [List.take_add_one, h]; rfl
  rw [ht]
  unfold seenL
  simp only [List.setIfInBounds_toArray]
  congr 1
  refine List.ext_getElem? fun j => ?_
  rw [List.getElem?_set]
  by_cases hj : j < n
  · by_cases hx : x = j
    · subst hx
      simp [hj]
    · have hxj : ¬ ((j : Int) = (x : Int)) := by omega
      simp [hj, hx, hxj]
  · simp [hj]
    intro hx; subst hx; first | omega | exact hj | (simp; omega)
end

section
/- Contracts of the reference's PutOrder. Nothing that was there is written. -/
open Go.RowKit
set_option linter.unusedVariables false

/-- The numbers are places of the tasks. -/
def InL (ts : List Tk) (o : List Nat) : Prop := ∀ i ∈ o, i < ts.length
theorem put_take {ts : List Tk} {o : List Nat} {k x : Nat} {t : Tk} (h : o[k]? = some x) (ht : ts[x]? = some t) : putN ts (o.take (k + 1)) = putN ts (o.take k) ++ [t] := by
  rw [List.take_add_one, h, put_app]
  congr 1
  show [ts.getD x default] = [t]
  rw [List.getD_eq_getElem?_getD, ht]; rfl
theorem toZ_get {o : List Nat} {k x : Nat} (h : o[k]? = some x) : (toZ o)[k]? = some (x : Int) := by unfold toZ; rw [List.getElem?_map, h]; rfl

set_option maxRecDepth 100000 in
set_option maxHeartbeats 2000000 in
theorem sPut_is (w : World) (A : Option Addr) (n c : Nat) (ts : List Tk) (A2 : Option Addr) (n2 c2 : Nat) (o : List Nat) (h : Tks w w.heap.size A n ts) (h2 : Zs w w.heap.size A2 n2 (toZ o)) (ho : InL ts o) (hl : o.length ≤ 100) :
    Calls Try.prog 58 #[.slice A n c, .slice A2 n2 c2] w (LsRes (putN ts o) w) := by
  obtain ⟨i0, hi, hz0, hz1, hz2⟩ := info_parts info_task
  have H := Lib.hid h
  have H2 := Lib.hid h2
  have HL := Lib.hid h.len
  have HL2 : Hid (o.length = n2) := by show _ = _; rw [← toZ_len]; exact h2.len
  have HI := Lib.hid ho
  clear h h2 ho
  have hn2 : n2 ≤ 100 := by rw [← HL2.out]; exact hl
  go_enter Try.func58, Try.ntmps58
  go_wp2
  go_loopw [5, 6] (fun v i wr => ∃ k : Nat, k ≤ n2 ∧ i = .int .i64 k ∧ Own wr w.heap.size v (putN ts (o.take k)) ∧ Below w.heap.size w wr) (fun _ i _ => n2 - (intOf i).toNat)
  case atStart => exact ⟨0, Nat.zero_le _, rfl, Own.empty w, bl_alloc (Below.refl _ _) _⟩
  case round =>
    obtain ⟨k, hk, rfl, ho, hb⟩ := hrel
    have HO := Lib.hid ho
    have HB := Lib.hid hb
    have hsz : w.heap.size ≤ wr.heap.size := hb.size
    clear ho hb
    by_cases hlt : k < n2
    · have hlti : (k : Int) < (n2 : Int) := by omega
      obtain ⟨x, hx⟩ : ∃ x, o[k]? = some x := ⟨o[k]'(by rw [HL2.out]; exact hlt), List.getElem?_eq_getElem _⟩
      obtain ⟨b2, o2, rfl, hb2, g0⟩ := (H2.out.below HB.out).at_ k _ (toZ_get hx)
      have hxn : x < n := by rw [← HL.out]; exact HI.out x (List.mem_of_getElem? hx)
      have hxi : (x : Int) < (n : Int) := by omega
      obtain ⟨t, ht⟩ : ∃ t, ts[x]? = some t := ⟨ts[x]'(by rw [HL.out]; exact hxn), List.getElem?_eq_getElem _⟩
      obtain ⟨b, of, rfl, hbl, c0, c1, c2', c3, c4⟩ := (H.out.below HB.out).at_ x t ht
      have HT := Lib.hid (put_take hx ht)
      have hlen : (putN ts (o.take k)).length ≤ 100 := by rw [put_len, List.length_take]; omega
      clear hx ht
      obtain ⟨lo, hi', du, ev, cr⟩ := t
      dsimp only at c0 c1 c2' c3 c4
      have b1 : (putN ts (o.take k)).length + 1 ≤ maxLen := by unfold maxLen; omega
      have b2' : ((putN ts (o.take k)).length + 1) * 40 ≤ 140737488355328 := by omega
      go_wp2_with (at_builtin; refine wpList_append_own _ rfl (.tmp 14) (.tmp 22) 23 rfl w.heap.size 36 i0 _ 5 40 Try.underlying23 hi hz0 hz1 hz2 rfl (by decide) _ (putN ts (o.take k)).length ((putN ts (o.take k)).flatMap Tk.cells) rfl (HO.out.alloc _) ⟨wr.heap.size, 0, none⟩ 1 1 (Tk.cells ⟨lo, hi', du, ev, cr⟩) rfl rfl (cell_new5 _ ⟨lo, hi', du, ev, cr⟩ _) (by intro u hu; exact cells_one [⟨lo, hi', du, ev, cr⟩] u (by simpa using hu)) b1 b2' (by simp; omega) ?_; intro v' w4 hown' hgrow _)
      have HO4 := Lib.hid (Own.snoc hown')
      have HB4 := Lib.hid ((bl_alloc HB.out _).grown hgrow (by simp; omega) (fun k e => (World.ownsRow.lt HO.out k e).1))
      clear hown' hgrow hlen b1 b2'
      go_wp2
      go_roundw
      case rel => exact ⟨k + 1, by omega, by go_num, by rw [HT.out]; exact HO4.out, HB4.out⟩
      case measure => simp [intOf]; omega
    · obtain rfl : k = n2 := by omega
      have hlti : ¬ (k : Int) < (k : Int) := by omega
      go_wp2
      go_ret
      exact lsRes_of HO.out HB.out (by rw [List.take_of_length_le (by rw [HL2.out]; exact Nat.le_refl _)])

theorem ord_nat {zs : List Int} {n : Nat} (h : ordB zs n = true) : ∃ o : List Nat, zs = toZ o ∧ o.length = n ∧ (∀ i ∈ o, i < n) ∧ o.Nodup := by
  obtain ⟨h1, h2, h3⟩ := ordB_iff.1 h
  have hz : zs = toZ (zs.map Int.toNat) := by
    unfold toZ
    rw [List.map_map]
    conv => lhs; rw [← List.map_id zs]
    refine List.map_congr_left fun z hz => ?_
    have := h2 z hz
    simp only [id, Function.comp]
    show z = ((z.toNat : Nat) : Int)
    omega
  refine ⟨zs.map Int.toNat, hz, by simp [h1], fun i hi => ?_, ?_⟩
  · obtain ⟨z, hz, rfl⟩ := List.mem_map.1 hi
    have := h2 z hz
    omega
  · rw [hz] at h3
    exact (List.pairwise_map.1 h3).imp fun hab e => hab (by rw [e])
end

section
/- Contracts of the reference's CanBeLast. Nothing that was there is written. -/
open Go.RowKit
set_option linter.unusedVariables false

theorem step_append_own {P : Program} {ops : Array Oper} {o : Oper} {a : Act} {w : World} {K : Act → World → Prop} {Q : Exit → Act → World → Prop} {E : Prop} (hgd : o.guard = none) (s x : Operand) (t : TypeId)
    (ho : o.op = .call { callee := .builtin .append, args := #[s, x], argTypes := #[t, t] })
    (base : Nat) (e : TypeId) (i : TypeInfo) (z : Value) (size bytes : Nat) (ht : P.underlying t = some (.slice e)) (hi : P.info? e = some i) (hz : i.zero = some z)
    (hsize : i.size = size) (hby : i.bytes = bytes) (hzs : z.cells.size = size) (hsz : 0 < size)
    (v : Value) (n : Nat) (xs : List Value) (hs : a.eval s = v) (hown : w.ownsRow base e size v n xs)
    (ad : Addr) (m c : Nat) (news : List Value) (hx : a.eval x = .slice (some ad) m c) (hl : news.length = m * size) (hnews : ∀ j u, news[j]? = some u → w.cell? (ad.add j) = some u) (h1 : ∀ u ∈ news, u.oneCell' = true)
    (h63 : n + m ≤ maxLen) (hbytes : (n + m) * bytes ≤ 140737488355328) (hbase : base ≤ w.heap.size)
    (h : ∀ v' w', w'.ownsRow base e size v' (n + m) (xs ++ news) → w.grownBy w' v.ownBlock → (v' = .slice none 0 0 ↔ v = .slice none 0 0 ∧ m = 0) → K (a.put o.dst v') w') :
    if Region.wanted o (yielded ops a.tmps) = true then Oper.wp P o a w K Q else E := by
  have hw : Region.wanted o (yielded ops a.tmps) = true := by simp [Region.wanted, hgd]
  rw [if_pos hw]
  exact wp_append_own w s x t ho base e i z size bytes ht hi hz hsize hby hzs hsz v n xs hs hown ad m c news hx hl hnews h1 h63 hbytes hbase h
theorem addr_add (b o j : Nat) : (⟨b, o, none⟩ : Addr).add j = ⟨b, o + j, none⟩ := by unfold Addr.add; split <;> simp_all
/-- The cells of tasks that lie one after another. -/
theorem Tks.cells {w : World} {B b o n : Nat} {ts : List Tk} (h : Tks w B (some ⟨b, o, none⟩) n ts) : ∀ j u, (ts.flatMap Tk.cells)[j]? = some u → w.cell? ((⟨b, o, none⟩ : Addr).add j) = some u := by
  intro j u hu
  have hj : j < ts.length * 5 := by rw [← cells_length]; exact (List.getElem?_eq_some_iff.1 hu).1
  obtain ⟨t, ht⟩ : ∃ t, ts[j / 5]? = some t := ⟨ts[j / 5]'(by omega), List.getElem?_eq_getElem _⟩
  have hj5 : j = j / 5 * 5 + j % 5 := by omega
  have hm : j % 5 < 5 := Nat.mod_lt _ (by decide)
  have hg := cells_get ts (j / 5) t ht (j % 5) hm
  rw [← hj5, hu] at hg
  obtain ⟨b', o', e, _, C⟩ := h.at_ _ _ ht
  injection e with e
  injection e with e1 e2
  subst e1 e2
  rw [addr_add]
  obtain ⟨c0, c1, c2, c3, c4⟩ := C
  rcases (by omega : j % 5 = 0 ∨ j % 5 = 1 ∨ j % 5 = 2 ∨ j % 5 = 3 ∨ j % 5 = 4) with h | h | h | h | h <;> rw [h] at hg hj5 <;> simp only [Tk.cells] at hg <;> (injection hg with hg; subst hg)
  · rw [hj5, Nat.add_zero]; exact c0
  · rw [hj5, ← Nat.add_assoc]; exact c1
  · rw [hj5, ← Nat.add_assoc]; exact c2
  · rw [hj5, ← Nat.add_assoc]; exact c3
  · rw [hj5, ← Nat.add_assoc]; exact c4

set_option maxRecDepth 100000 in
set_option maxHeartbeats 2000000 in
theorem sWithout_is (w : World) (A : Option Addr) (n c : Nat) (ts : List Tk) (k : Nat) (h : Tks w w.heap.size A n ts) (hn : n ≤ 100) (hnc : n ≤ c) (hk : k < n) :
    Calls Try.prog 78 #[.slice A n c, .int .i64 (k : Int)] w (LsRes (ts.eraseIdx k) w) := by
  obtain ⟨i0, hi, hz0, hz1, hz2⟩ := info_parts info_task
  obtain ⟨t, ht⟩ := get_at h.len hk
  obtain ⟨bb, oo, rfl, hbl, _⟩ := h.at_ k _ ht
  have H := Lib.hid h
  have HL := Lib.hid h.len
  clear h ht
  have i1 : (k : Int) ≤ (c : Int) := by omega
  have i2 : (k : Int) + 1 ≤ (n : Int) := by omega
  have i3 : (k : Int) + 1 ≤ (c : Int) := by omega
  have i4 : (n : Int) ≤ (c : Int) := by omega
  have i5 : (0 : Int) ≤ (k : Int) + 1 := by omega
  by_cases hkc : k + 1 = c
  · subst hkc
    obtain rfl : n = k + 1 := by omega
    have kw : IntKind.i64.wrap ((k : Int) + 1) = (k : Int) + 1 := IntWalk.i64_in _ (by omega)
    have i7 : (k : Int) ≤ (k : Int) + 1 := by omega
    have kn : ((k : Int) + 1).toNat = k + 1 := by omega
    go_enter Try.func78, Try.ntmps78
    go_wp2
    go_region_law (first | (refine step_append_own rfl (.tmp 5) (.tmp 8) 23 rfl w.heap.size 36 i0 _ 5 40 Try.underlying23 hi hz0 hz1 hz2 rfl (by decide) _ 0 [] rfl (Own.empty _) ⟨bb, oo, none⟩ k (k + 1) ((ts.take k).flatMap Tk.cells) rfl (by rw [cells_length, List.length_take, HL.out]; rw [Nat.min_eq_left (by omega)]) (Tks.cells (Tks.take (H.out.below (by repeat (first | with_reducible exact Below.refl w.heap.size w | with_reducible refine Below.drew ?_ | with_reducible refine bl_alloc ?_ _))) (by omega))) (cells_one _) (by unfold maxLen; omega) (by omega) (by simp) ?_; intro v1 w4 hown1 hgrow1 _; have HO1 := Lib.hid (show Own w4 w.heap.size v1 (ts.take k) from by unfold Own; rw [List.length_take, HL.out, Nat.min_eq_left (by omega)]; simpa using hown1); have HB1 := Lib.hid (show Below w.heap.size w w4 from (by repeat (first | with_reducible exact Below.refl w.heap.size w | with_reducible refine Below.drew ?_ | with_reducible refine bl_alloc ?_ _) : Below w.heap.size w _).grown hgrow1 (by simp) (fun q e => Nat.le_of_eq (Option.some.inj e))); have HS1 := HB1.out.size; clear hown1 hgrow1) | (refine step_append_own rfl (.tmp 9) (.tmp 13) 23 rfl w.heap.size 36 i0 _ 5 40 Try.underlying23 hi hz0 hz1 hz2 rfl (by decide) v1 (ts.take k).length ((ts.take k).flatMap Tk.cells) rfl HO1.out ⟨bb, oo, none⟩ 0 0 [] rfl rfl (fun j u hu => by simp at hu) (fun u hu => by simp at hu) (by unfold maxLen; rw [List.length_take]; omega) (by rw [List.length_take]; omega) HS1 ?_; intro v2 w5 hown2 hgrow2 _; have HB2 := Lib.hid (show Below w.heap.size w w5 from HB1.out.grown hgrow2 HS1 (fun q e => (World.ownsRow.lt HO1.out q e).1)); have HO2 := Lib.hid (show Own w5 w.heap.size v2 (ts.take k) from by unfold Own; simpa using hown2); clear hown2 hgrow2))
    go_wp2
    go_ret
    exact lsRes_of HO2.out HB2.out (by rw [List.eraseIdx_eq_take_drop_succ, List.drop_eq_nil_of_le (by rw [HL.out]; exact Nat.le_refl _), List.append_nil])
  have j1 : ((k : Int) + 1 == (c : Int)) = false := by rw [beq_eq_false_iff_ne]; omega
  have j2 : ¬ (k : Int) + 1 = (c : Int) := by omega
  have j4 : ¬ c = k + 1 := by omega
  go_enter Try.func78, Try.ntmps78
  go_wp2
  have kw : IntKind.i64.wrap ((k : Int) + 1) = (k : Int) + 1 := IntWalk.i64_in _ (by omega)
  have kn : ((k : Int) + 1).toNat = k + 1 := by omega
  go_region_law (first | (refine step_append_own rfl (.tmp 5) (.tmp 8) 23 rfl w.heap.size 36 i0 _ 5 40 Try.underlying23 hi hz0 hz1 hz2 rfl (by decide) _ 0 [] rfl (Own.empty _) ⟨bb, oo, none⟩ k c ((ts.take k).flatMap Tk.cells) rfl (by rw [cells_length, List.length_take, HL.out]; rw [Nat.min_eq_left (by omega)]) (Tks.cells (Tks.take (H.out.below (by repeat (first | with_reducible exact Below.refl w.heap.size w | with_reducible refine Below.drew ?_ | with_reducible refine bl_alloc ?_ _))) (by omega))) (cells_one _) (by unfold maxLen; omega) (by omega) (by simp) ?_; intro v1 w4 hown1 hgrow1 _; have HO1 := Lib.hid (show Own w4 w.heap.size v1 (ts.take k) from by unfold Own; rw [List.length_take, HL.out, Nat.min_eq_left (by omega)]; simpa using hown1); have HB1 := Lib.hid (show Below w.heap.size w w4 from (by repeat (first | with_reducible exact Below.refl w.heap.size w | with_reducible refine Below.drew ?_ | with_reducible refine bl_alloc ?_ _) : Below w.heap.size w _).grown hgrow1 (by simp) (fun q e => Nat.le_of_eq (Option.some.inj e))); have HS1 := HB1.out.size; clear hown1 hgrow1) | (refine step_append_own rfl (.tmp 9) (.tmp 13) 23 rfl w.heap.size 36 i0 _ 5 40 Try.underlying23 hi hz0 hz1 hz2 rfl (by decide) v1 (ts.take k).length ((ts.take k).flatMap Tk.cells) rfl HO1.out ⟨bb, oo + (k + 1) * 5, none⟩ (n - (k + 1)) (c - (k + 1)) ((ts.drop (k + 1)).flatMap Tk.cells) rfl (by rw [cells_length, List.length_drop, HL.out]) (Tks.cells (Tks.drop (k := k + 1) (H.out.below HB1.out) rfl)) (cells_one _) (by unfold maxLen; rw [List.length_take]; omega) (by rw [List.length_take]; omega) HS1 ?_; intro v2 w5 hown2 hgrow2 _; have HB2 := Lib.hid (show Below w.heap.size w w5 from HB1.out.grown hgrow2 HS1 (fun q e => (World.ownsRow.lt HO1.out q e).1)); have HO2 := Lib.hid (show Own w5 w.heap.size v2 (ts.take k ++ ts.drop (k + 1)) from by unfold Own; rw [List.length_append, List.length_drop, HL.out, List.flatMap_append]; exact hown2); clear hown2 hgrow2))
  go_wp2
  go_ret
  exact lsRes_of HO2.out HB2.out (by rw [List.eraseIdx_eq_take_drop_succ])
end

section
/- Contract of the reference's CanBeLast. Nothing that was there is written. -/
open Go.RowKit
set_option linter.unusedVariables false

theorem news_kept {w w' : World} {B g : Nat} {l : List Value} (h : Below B w w') (hn : ∀ j u, l[j]? = some u → w.cell? ((⟨g, 0, none⟩ : Addr).add j) = some u) (hg : g < B) : ∀ j u, l[j]? = some u → w'.cell? ((⟨g, 0, none⟩ : Addr).add j) = some u := fun j u hu => by
  have := hn j u hu
  rw [addr_add] at this ⊢
  exact (h.cell (p := ⟨g, 0 + j, none⟩) hg).trans this
theorem news_drew {w : World} {g : Nat} {l : List Value} (hn : ∀ j u, l[j]? = some u → w.cell? ((⟨g, 0, none⟩ : Addr).add j) = some u) : ∀ j u, l[j]? = some u → w.drew.cell? ((⟨g, 0, none⟩ : Addr).add j) = some u := hn
theorem five_alloc {w : World} {g o : Nat} {x0 x1 x2 x3 x4 : Value} (h : w.cell? ⟨g, o, none⟩ = some x0 ∧ w.cell? ⟨g, o + 1, none⟩ = some x1 ∧ w.cell? ⟨g, o + 2, none⟩ = some x2 ∧ w.cell? ⟨g, o + 3, none⟩ = some x3 ∧ w.cell? ⟨g, o + 4, none⟩ = some x4) (b : Obj) :
    (w.alloc b).cell? ⟨g, o, none⟩ = some x0 ∧ (w.alloc b).cell? ⟨g, o + 1, none⟩ = some x1 ∧ (w.alloc b).cell? ⟨g, o + 2, none⟩ = some x2 ∧ (w.alloc b).cell? ⟨g, o + 3, none⟩ = some x3 ∧ (w.alloc b).cell? ⟨g, o + 4, none⟩ = some x4 :=
  have hl : g < w.heap.size := World.block_lt_of_cell? w _ h.1
  ⟨(World.cell?_alloc_lt w b _ hl).trans h.1, (World.cell?_alloc_lt w b _ hl).trans h.2.1, (World.cell?_alloc_lt w b _ hl).trans h.2.2.1, (World.cell?_alloc_lt w b _ hl).trans h.2.2.2.1, (World.cell?_alloc_lt w b _ hl).trans h.2.2.2.2⟩
theorem five_drew {w : World} {g o : Nat} {x0 x1 x2 x3 x4 : Value} (h : w.cell? ⟨g, o, none⟩ = some x0 ∧ w.cell? ⟨g, o + 1, none⟩ = some x1 ∧ w.cell? ⟨g, o + 2, none⟩ = some x2 ∧ w.cell? ⟨g, o + 3, none⟩ = some x3 ∧ w.cell? ⟨g, o + 4, none⟩ = some x4) :
    w.drew.cell? ⟨g, o, none⟩ = some x0 ∧ w.drew.cell? ⟨g, o + 1, none⟩ = some x1 ∧ w.drew.cell? ⟨g, o + 2, none⟩ = some x2 ∧ w.drew.cell? ⟨g, o + 3, none⟩ = some x3 ∧ w.drew.cell? ⟨g, o + 4, none⟩ = some x4 := h
theorem tk_five {w w' : World} {g o : Nat} {t : Tk} (h : TkAt w g o t) : w.cell? ⟨g, o, none⟩ = some (.int .i64 t.lo) ∧ w.cell? ⟨g, o + 1, none⟩ = some (.int .i64 t.hi) ∧ w.cell? ⟨g, o + 2, none⟩ = some (.int .i64 t.du) ∧ w.cell? ⟨g, o + 3, none⟩ = some (.int .i64 t.ev) ∧ w.cell? ⟨g, o + 4, none⟩ = some (.bool t.cr) := ⟨h.c0, h.c1, h.c2, h.c3, h.c4⟩

set_option maxRecDepth 100000 in
set_option maxHeartbeats 1000000 in
theorem sCan_is (w : World) (A : Option Addr) (n c : Nat) (ts : List Tk) (a : Int) (h : Tks w w.heap.size A n ts) (hn : n ≤ 1048576) (hnc : n ≤ c) (b : Bool) (hv : (decide (0 ≤ a) && canL ts a.toNat) = b) :
    Calls Try.prog 59 #[.slice A n c, .int .i64 a] w fun e w' => e = .returned (.bool b) ∧ Below w.heap.size w w' := by
  obtain ⟨i0, hi, hz0, hz1, hz2⟩ := info_parts info_task
  have H := Lib.hid h
  have HL := Lib.hid h.len
  clear h
  cases hh : (setB ts && (decide (0 ≤ a) && decide (a < (n : Int))))
  · obtain rfl : b = false := by
      rw [← hv]
      cases hs : setB ts
      · rw [can_bad _ hs, Bool.and_false]
      · rw [hs, Bool.true_and] at hh
        by_cases h0 : 0 ≤ a
        · rw [decide_eq_true h0, Bool.true_and] at hh
          have h1 : ¬ a < (n : Int) := of_decide_eq_false hh
          rw [can_past (List.getElem?_eq_none (by have := HL.out; omega)), Bool.and_false]
        · rw [decide_eq_false h0]; rfl
    have HH := Lib.hid hh
    clear hv hh
    go_enter Try.func59, Try.ntmps59
    go_wp2_with (go_at_call 77; refine (sAt_is _ A n c ts a H.out hn false HH.out).mono ?_; rintro e w1 ⟨rfl, hb⟩)
    go_ret
    exact ⟨rfl, hb⟩
  have HH := Lib.hid hh
  rw [Bool.and_eq_true, Bool.and_eq_true, decide_eq_true_iff, decide_eq_true_iff] at hh
  obtain ⟨hs, h0, h1⟩ := hh
  obtain ⟨k, rfl⟩ := Int.eq_ofNat_of_zero_le h0
  have hk : k < n := by omega
  obtain ⟨t, ht⟩ := get_at HL.out hk
  obtain ⟨bb, oo, rfl, hbl, _⟩ := H.out.at_ k _ ht
  rw [decide_eq_true h0, Bool.true_and, show ((k : Int)).toNat = k from rfl, can_end hs ht] at hv
  have h5 : n ≤ 5 := by have := setB_len hs; rw [HL.out] at this; exact this
  obtain ⟨us, hus⟩ : ∃ us, us = endOf ts k t := ⟨_, rfl⟩
  have hul : us.length = n := by rw [hus, (end_last ht).2.2, HL.out]
  have hsu : setB us = true := by rw [hus, set_perm (end_perm ht)]; exact hs
  rw [← hus, HL.out, ← hul] at hv
  have HV := Lib.hid hv
  have hu5 : us.length ≤ 5 := by omega
  have hu0 : 1 ≤ us.length := by omega
  clear hul
  have HT := Lib.hid ht
  have HU : Hid (us = ts.eraseIdx k ++ [t]) := hus
  have i1 : (k : Int) < (n : Int) := h1
  clear hv ht hs hus
  have hel : (ts.eraseIdx k).length = n - 1 := by rw [List.length_eraseIdx, if_pos (by rw [HL.out]; exact hk), HL.out]
  have HEL := Lib.hid hel
  clear hel
  go_enter Try.func59, Try.ntmps59
  go_wp2_with fail
  refine (sAt_is _ _ n c ts (k : Int) H.out hn true HH.out).mono ?_
  rintro e w1 ⟨rfl, hb⟩
  have HB1 := Lib.hid hb
  have hsz := hb.size
  have H1 := Lib.hid ((H.out.below hb).more hb.size)
  have hbl1 : bb < w1.heap.size := by omega
  have C1 := Tks.get H1.out HT.out
  obtain ⟨lo, hi', du, ev, cr⟩ := t
  obtain ⟨c0, c1, c2, c3, c4⟩ := C1.2
  dsimp only at c0 c1 c2 c3 c4
  have hS0 : w1.cell? ⟨bb, oo + k * 5, none⟩ = some (.int .i64 lo) ∧ w1.cell? ⟨bb, oo + k * 5 + 1, none⟩ = some (.int .i64 hi') ∧ w1.cell? ⟨bb, oo + k * 5 + 2, none⟩ = some (.int .i64 du) ∧ w1.cell? ⟨bb, oo + k * 5 + 3, none⟩ = some (.int .i64 ev) ∧ w1.cell? ⟨bb, oo + k * 5 + 4, none⟩ = some (.bool cr) := ⟨c0, c1, c2, c3, c4⟩
  clear hb C1
  go_wp2
  go_region_held3? (fun W => W.cell? ⟨bb, oo + k * 5, none⟩ = some (.int .i64 lo) ∧ W.cell? ⟨bb, oo + k * 5 + 1, none⟩ = some (.int .i64 hi') ∧ W.cell? ⟨bb, oo + k * 5 + 2, none⟩ = some (.int .i64 du) ∧ W.cell? ⟨bb, oo + k * 5 + 3, none⟩ = some (.int .i64 ev) ∧ W.cell? ⟨bb, oo + k * 5 + 4, none⟩ = some (.bool cr)) (first | with_reducible exact hS4 | with_reducible exact hS2 | with_reducible exact five_alloc hS2 _ | with_reducible exact hS0 | with_reducible exact five_alloc hS0 _ | with_reducible exact five_drew (five_alloc hS0 _) | with_reducible exact five_drew hS0)
    ((first
      | (go_at_call 78; refine (sWithout_is _ (some ⟨bb, oo, none⟩) n c ts k ?_ (by omega) hnc hk).mono ?_; exact tks_to H1.out (by repeat (first | with_reducible exact Below.refl w1.heap.size w1 | with_reducible refine Below.drew ?_ | with_reducible refine bl_drewN ?_ _ | with_reducible refine bl_alloc ?_ _)); rintro e w2 ⟨A2, c2, rfl, ho2, hb2⟩; have HB2 := Lib.hid (show Below w1.heap.size w1 w2 from bl_trans (by repeat (first | with_reducible exact Below.refl w1.heap.size w1 | with_reducible refine Below.drew ?_ | with_reducible refine bl_drewN ?_ _ | with_reducible refine bl_alloc ?_ _)) hb2); have hS2 : w2.cell? ⟨bb, oo + k * 5, none⟩ = some (.int .i64 lo) ∧ w2.cell? ⟨bb, oo + k * 5 + 1, none⟩ = some (.int .i64 hi') ∧ w2.cell? ⟨bb, oo + k * 5 + 2, none⟩ = some (.int .i64 du) ∧ w2.cell? ⟨bb, oo + k * 5 + 3, none⟩ = some (.int .i64 ev) ∧ w2.cell? ⟨bb, oo + k * 5 + 4, none⟩ = some (.bool cr) := tk_five (w' := w2) (Tks.get (tks_to H1.out HB2.out) HT.out).2; have HO2 := Lib.hid (own_more ho2 (by simp) : Own w2 w1.heap.size (.slice A2 (ts.eraseIdx k).length c2) (ts.eraseIdx k)); have HR2 : Hid (w2.ownsRow w1.heap.size 36 5 (.slice A2 (ts.eraseIdx k).length c2) (ts.eraseIdx k).length ((ts.eraseIdx k).flatMap Tk.cells)) := HO2.out; have HC2 := Lib.hid hb2; have hs2 := HB2.out.size; clear hb2 ho2)
      | (have uu := HO2; clear uu; refine step_append_own rfl (.tmp 12) (.tmp 17) 23 rfl w1.heap.size 36 i0 _ 5 40 Try.underlying23 hi hz0 hz1 hz2 rfl (by decide) (.slice A2 (ts.eraseIdx k).length c2) (ts.eraseIdx k).length ((ts.eraseIdx k).flatMap Tk.cells) rfl (by first | with_reducible exact HR2.out | with_reducible exact World.ownsRow.alloc HR2.out _) _ 1 1 (Tk.cells ⟨lo, hi', du, ev, cr⟩) rfl rfl (by first | with_reducible exact cell_new5 w2 ⟨lo, hi', du, ev, cr⟩ _ | exact news_kept HC2.out (news_drew (cell_new5_at w1 ⟨lo, hi', du, ev, cr⟩ _ w1.heap.size rfl)) (by simp)) (by intro u hu; exact cells_one [⟨lo, hi', du, ev, cr⟩] u (by simpa using hu)) (by have := HEL.out; unfold maxLen; omega) (by have := HEL.out; omega) (by first | omega | (simp; omega)) ?_; intro v4 w4 hown4 hgrow4 _; have HO4 := Lib.hid (show Own w4 w1.heap.size v4 us from by rw [HU.out]; exact Own.snoc hown4); have HB4 := Lib.hid (show Below w1.heap.size w1 w4 from (by repeat (first | with_reducible exact HB2.out | with_reducible refine bl_alloc ?_ _) : Below w1.heap.size w1 _).grown hgrow4 (by first | omega | (simp; omega)) (fun q e => (World.ownsRow.lt HO2.out q e).1)); have hS4 : w4.cell? ⟨bb, oo + k * 5, none⟩ = some (.int .i64 lo) ∧ w4.cell? ⟨bb, oo + k * 5 + 1, none⟩ = some (.int .i64 hi') ∧ w4.cell? ⟨bb, oo + k * 5 + 2, none⟩ = some (.int .i64 du) ∧ w4.cell? ⟨bb, oo + k * 5 + 3, none⟩ = some (.int .i64 ev) ∧ w4.cell? ⟨bb, oo + k * 5 + 4, none⟩ = some (.bool cr) := tk_five (w' := w4) (Tks.get (tks_to H1.out HB4.out) HT.out).2; clear hown4 hgrow4)))
  all_goals (
    obtain ⟨A5, c5, rfl⟩ := HO4.out.form
    have hu1 : (us.length : Int) - 1 = ((us.length - 1 : Nat) : Int) := by omega
    go_wp2_with fail
    refine (sBothAt_is w4 A5 _ c5 us (us.length - 1) HO4.out.reads.2 (by omega) (by omega) b HV.out).mono ?_
    rintro e w6 ⟨rfl, hb6⟩
    have HB6 := Lib.hid (bl_trans HB1.out (bl_trans HB4.out hb6))
    clear hb6
    go_wp2
    go_ret
    exact ⟨rfl, HB6.out⟩)
end

section
/- Contract of the reference's AssignOrder. Nothing that was there is written. -/
open Go.RowKit
set_option linter.unusedVariables false

theorem OwnZ.one (w : World) (B : Nat) (hB : B ≤ w.heap.size) (z : Int) : OwnZ (w.alloc (.cells #[.int .i64 z] 3)) B (.slice (some ⟨w.heap.size, 0, none⟩) 1 1) [z] :=
  ⟨rfl, .inr ⟨w.heap.size, 1, #[.int .i64 z], rfl, hB, heap_alloc_new w _, Nat.le_refl _, by decide, rfl, rfl⟩⟩
theorem Zs.cells {w : World} {B b o n : Nat} {zs : List Int} (h : Zs w B (some ⟨b, o, none⟩) n zs) : ∀ j u, (zs.map (Value.int .i64))[j]? = some u → w.cell? ((⟨b, o, none⟩ : Addr).add j) = some u := by
  intro j u hu
  rw [List.getElem?_map] at hu
  cases hz : zs[j]? with
  | none => rw [hz] at hu; cases hu
  | some z =>
    rw [hz] at hu
    injection hu with hu
    subst hu
    rw [addr_add]
    exact (h.get hz).2
theorem zs_one (zs : List Int) : ∀ u ∈ zs.map (Value.int .i64), u.oneCell' = true := by
  intro u hu
  obtain ⟨z, _, rfl⟩ := List.mem_map.1 hu
  rfl
theorem toZ_range (k : Nat) : toZ (List.range (k + 1)) = toZ (List.range k) ++ [(k : Int)] := by unfold toZ; rw [List.range_succ, List.map_append]; rfl
theorem toZ_erase (L : List Nat) (k : Nat) : toZ (L.eraseIdx k) = (toZ L).take k ++ (toZ L).drop (k + 1) := by
  unfold toZ
  rw [List.eraseIdx_eq_take_drop_succ, List.map_append, List.map_take, List.map_drop]
/-- What a search from the end has seen. -/
def Scan (us : List Tk) (k : Nat) (z : Int) : Prop :=
  (z = -1 ∧ ∀ j, k ≤ j → j < us.length → canL us j = false) ∨ (z = (k : Int) ∧ k < us.length ∧ canL us k = true ∧ ∀ j, k < j → j < us.length → canL us j = false)
theorem scan_start (us : List Tk) : Hid (Scan us us.length (-1)) := .inl ⟨rfl, fun j h1 h2 => by omega⟩
theorem scan_no {us : List Tk} {k : Nat} (h : Scan us (k + 1) (-1)) (hc : canL us k = false) : Scan us k (-1) := by
  rcases h with ⟨_, h⟩ | ⟨h, _⟩
  · refine .inl ⟨rfl, fun j h1 h2 => ?_⟩
    rcases Nat.lt_or_ge k j with hj | hj
    · exact h j hj h2
    · obtain rfl : j = k := by omega
      exact hc
  · omega
theorem scan_yes {us : List Tk} {k : Nat} (h : Scan us (k + 1) (-1)) (hk : k < us.length) (hc : canL us k = true) : Scan us k (k : Int) := by
  rcases h with ⟨_, h⟩ | ⟨h, _⟩
  · exact .inr ⟨rfl, hk, hc, fun j h1 h2 => h j h1 h2⟩
  · omega
theorem scan_none {ts : List Tk} {L : List Nat} (h : Scan (putN ts L) 0 (-1)) : pickL ts L = none := by
  cases hp : pickL ts L with
  | none => rfl
  | some i =>
    obtain ⟨h1, h2, _⟩ := pick_some hp
    rcases h with ⟨_, h⟩ | ⟨h, _⟩
    · rw [h i (Nat.zero_le _) (by rw [put_len]; exact h1)] at h2; cases h2
    · omega
theorem scan_some {ts : List Tk} {L : List Nat} {k : Nat} (h : Scan (putN ts L) k (k : Int)) : pickL ts L = some k := by
  rcases h with ⟨h, _⟩ | ⟨_, h1, h2, h3⟩
  · omega
  · rw [put_len] at h1 h3
    exact find_rev.2 ⟨h1, h2, h3⟩
theorem asg_stop {ts : List Tk} {L acc : List Nat} {r : Option (List Nat)} (h : asg ts L.length L acc = r) (hl : 0 < L.length) (hp : pickL ts L = none) : r = none := by
  obtain ⟨m, hm⟩ : ∃ m, L.length = m + 1 := ⟨L.length - 1, by omega⟩
  rw [hm] at h
  unfold asg at h
  rw [hp] at h
  exact h.symm
theorem asg_go {ts : List Tk} {L acc : List Nat} {r : Option (List Nat)} {k x : Nat} (h : asg ts L.length L acc = r) (hx : L[k]? = some x) (hp : pickL ts L = some k) : asg ts (L.eraseIdx k).length (L.eraseIdx k) (x :: acc) = r := by
  have hk := (List.getElem?_eq_some_iff.1 hx).1
  have hm : L.length = (L.eraseIdx k).length + 1 := by rw [List.length_eraseIdx, if_pos hk]; omega
  have hg : L.getD k 0 = x := by rw [List.getD_eq_getElem?_getD, hx]; rfl
  rw [hm] at h
  unfold asg at h
  rw [hp] at h
  simp only [hg] at h
  exact h
def asgR (r : Option (List Nat)) : List Int := match r with | some o => toZ o | none => []

set_option maxRecDepth 100000 in
set_option maxHeartbeats 4000000 in
theorem sAssign_is (w : World) (A : Option Addr) (n c : Nat) (ts : List Tk) (h : Tks w w.heap.size A n ts) (hn : n ≤ 1048576) (r : Option (List Nat)) (hr : assignOf ts = r) :
    Calls Try.prog 20 #[.slice A n c] w (ZsRes2 (asgR r) r.isSome w) := by
  obtain ⟨i0, hi, hz0, hz1, hz2⟩ := info_parts info_int
  have H := Lib.hid h
  have HL := Lib.hid h.len
  clear h
  cases hs : setB ts
  · obtain rfl : r = none := by rw [← hr]; unfold assignOf; rw [hs]; rfl
    have HS := Lib.hid hs
    clear hr hs
    go_enter Try.func20, Try.ntmps20
    go_wp2_with fail
    refine (sSetValid_any _ A n c ts H.out hn).mono ?_
    rintro e w1 ⟨rfl, hb1⟩
    rw [HS.out]
    have HB1 := Lib.hid hb1
    clear hb1
    go_wp2
    go_ret2
    exact ⟨_, _, rfl, (OwnZ.empty w1).less HB1.out.size, bl_alloc HB1.out _⟩
  have h5 := setB_len hs
  rw [HL.out] at h5
  have hr' : asg ts n (List.range n) [] = r := by rw [← hr]; unfold assignOf; rw [if_pos hs, HL.out]
  have HR := Lib.hid hr'
  have HS := Lib.hid hs
  clear hr hr' hs
  go_enter Try.func20, Try.ntmps20
  go_wp2_with fail
  refine (sSetValid_any _ A n c ts H.out hn).mono ?_
  rintro e w1 ⟨rfl, hb1⟩
  rw [HS.out]
  have HB1 := Lib.hid hb1
  clear hb1
  go_wp2
  go_loopw [4, 5] (fun v i wr => ∃ k : Nat, k ≤ n ∧ i = .int .i64 k ∧ OwnZ wr w.heap.size v (toZ (List.range k)) ∧ Below w.heap.size w wr) (fun _ i _ => n - (intOf i).toNat)
  case atStart => exact ⟨0, Nat.zero_le _, rfl, (OwnZ.empty w1).less HB1.out.size, bl_alloc HB1.out _⟩
  case round =>
    obtain ⟨k, hk, rfl, ho, hb⟩ := hrel
    have HO := Lib.hid ho
    have HB := Lib.hid hb
    have hsz : w.heap.size ≤ wr.heap.size := hb.size
    clear ho hb
    by_cases hlt : k < n
    · have hlti : (k : Int) < (n : Int) := by omega
      have HLK : Hid ((toZ (List.range k)).length = k) := by show _ = _; rw [toZ_len, List.length_range]
      have b1 : (toZ (List.range k)).length + 1 ≤ maxLen := by rw [HLK.out]; unfold maxLen; omega
      have b2 : ((toZ (List.range k)).length + 1) * 8 ≤ 140737488355328 := by rw [HLK.out]; omega
      go_wp2_with (at_builtin; refine wpList_append_own _ rfl (.tmp 21) (.tmp 23) 25 rfl w.heap.size 3 i0 _ 1 8 Try.underlying25 hi hz0 hz1 hz2 rfl (by decide) _ (toZ (List.range k)).length ((toZ (List.range k)).map (Value.int .i64)) rfl (World.ownsRow.alloc HO.out _) ⟨wr.heap.size, 0, none⟩ 1 1 [.int .i64 (k : Int)] rfl rfl (by have hx := cell_one_new wr (.int .i64 (k : Int)) 3; simpa using hx) (by intro u hu; simp at hu; subst hu; rfl) b1 b2 (by simp; omega) ?_; intro v' w4 hown' hgrow _)
      have HO4 := Lib.hid (OwnZ.snoc hown')
      have HB4 := Lib.hid ((bl_alloc HB.out _).grown hgrow (by simp; omega) (fun k e => (World.ownsRow.lt HO.out k e).1))
      clear hown' hgrow b1 b2
      go_wp2
      go_roundw
      case rel => exact ⟨k + 1, by omega, by go_num, by rw [toZ_range]; exact HO4.out, HB4.out⟩
      case measure => simp [intOf]; omega
    · obtain rfl : k = n := by omega
      have hlti : ¬ (k : Int) < (k : Int) := by omega
      go_wp2
      go_loopw [4, 6] (fun v u wr => ∃ (L acc : List Nat) (A4 : Option Addr) (c4 g c6 : Nat), v = .slice A4 L.length c4 ∧ u = .slice (some ⟨g, 0, none⟩) acc.length c6 ∧ acc.length + L.length = k ∧ Hid (InL ts L) ∧ Hid (asg ts L.length L acc = r) ∧ OwnZ wr w.heap.size v (toZ L) ∧ OwnZ wr w.heap.size u (toZ acc) ∧ Below w.heap.size w wr) (fun v _ _ => sliceLen v)
      case atStart =>
        obtain ⟨A4, c4, e⟩ := HO.out.form
        rw [toZ_len] at e
        exact ⟨List.range k, [], A4, c4, wr.heap.size, 0, e, rfl, by simp, (fun i hi => by rw [HL.out]; exact List.mem_range.1 hi), by show _ = _; rw [List.length_range]; exact HR.out, HO.out.alloc _, (OwnZ.empty wr).less hsz, bl_alloc HB.out _⟩
      case round =>
        obtain ⟨L, acc, A4, c4, g, c6, rfl, rfl, hL, HI, HA, ho4, ho6, hb2⟩ := hrel
        have HO4 := Lib.hid ho4
        have HO6 := Lib.hid ho6
        have HB2 := Lib.hid hb2
        have hsz2 := hb2.size
        clear ho4 ho6 hb2 HO HB hsz
        by_cases h0 : L.length = 0
        · have hLn : L = [] := List.eq_nil_of_length_eq_zero h0
          subst hLn
          have hrr : r = some acc := by rw [← HA.out]; rfl
          subst hrr
          go_wp2
          go_ret2
          exact ⟨some ⟨g, 0, none⟩, c6, by show _ = Ending.returned (.tuple #[.slice _ (toZ acc).length c6, _]); rw [toZ_len]; rfl, by show OwnZ _ _ (.slice _ (toZ acc).length c6) _; rw [toZ_len]; exact HO6.out, HB2.out⟩
        have hLp : 0 < L.length := by omega
        have hLi : (0 : Int) < (L.length : Int) := by omega
        obtain ⟨g4, rfl, hcap, hcm⟩ : ∃ g4, A4 = some ⟨g4, 0, none⟩ ∧ L.length ≤ c4 ∧ c4 ≤ maxLen := by
          rcases HO4.out.2 with ⟨e, h0⟩ | ⟨g', cap, cur, e, _, _, h1, h2, _⟩
          · rw [toZ_len] at h0; omega
          · injection e with e1 e2 e3
            subst e3
            rw [toZ_len] at h1
            exact ⟨g', e1, h1, h2⟩
        have HZ4 : Hid (Zs wr wr.heap.size (some ⟨g4, 0, none⟩) L.length (toZ L)) := by
          have hh := HO4.out
          rw [← toZ_len L] at hh
          have := hh.reads
          rw [toZ_len] at this
          exact this
        go_wp2_with fail
        refine (sPut_is wr A k c ts (some ⟨g4, 0, none⟩) L.length c4 L ((H.out.below HB2.out).more HB2.out.size) HZ4.out HI.out (by omega)).mono ?_
        rintro e w2 ⟨A8, c8, rfl, ho8, hb8⟩
        obtain ⟨us, hus⟩ : ∃ us, us = putN ts L := ⟨_, rfl⟩
        have hul : us.length = L.length := by rw [hus, put_len]
        rw [← hus] at ho8 ⊢
        have HUS := Lib.hid hus
        have HUL := Lib.hid hul
        have HO8 := Lib.hid ho8
        have HB8 := Lib.hid hb8
        have HT8 := Lib.hid ho8.reads.2
        have hs8 := hb8.size
        clear hus ho8 hb8
        have hus5 : us.length ≤ 5 := by omega
        have hu8 : us.length ≤ c8 := by
          rcases HO8.out.2 with ⟨e, h0⟩ | ⟨g', cap, cur, e, _, _, h1, h2, _⟩
          · omega
          · injection e with e1 e2 e3
            subst e3
            exact h1
        have hlm : (L.length : Int) - 1 = (us.length : Int) - 1 := by omega
        clear hul
        go_wp2
        go_loopw [7, 9] (fun a i wr => ∃ (q : Nat) (z y : Int), q ≤ us.length ∧ a = .int .i64 z ∧ i = .int .i64 y ∧ y = (q : Int) - 1 ∧ Hid (Scan us q z) ∧ Below w2.heap.size w2 wr) (fun _ i _ => (intOf i + 1).toNat)
        case atStart => exact ⟨us.length, -1, _, Nat.le_refl _, rfl, by go_num, by omega, scan_start us, Below.refl _ _⟩
        case round =>
          obtain ⟨q, z, y, hq, rfl, rfl, hy, HC, hb9⟩ := hrel
          have HB9 := Lib.hid hb9
          have hs9 := hb9.size
          clear hb9
          by_cases hgo : z = -1 ∧ 0 < q
          · obtain ⟨rfl, hq0⟩ := hgo
            obtain ⟨q, rfl⟩ : ∃ q', q = q' + 1 := ⟨q - 1, by omega⟩
            obtain rfl : y = (q : Int) := by omega
            clear hy
            have hq1 : q < us.length := by omega
            have y0 : (0 : Int) ≤ (q : Int) := by omega
            go_wp2_with fail
            refine (sCan_is _ A8 us.length c8 us (q : Int) (tks_to HT8.out HB9.out) (by omega) hu8 (canL us q) (by simp)).mono ?_
            rintro e w10 ⟨rfl, hb10⟩
            have HB10 := Lib.hid (bl_trans HB9.out hb10)
            clear hb10
            cases hc : canL us q
            · have HC' := Lib.hid (scan_no HC.out hc)
              clear hc
              go_wp2
              go_roundw
              case rel => exact ⟨q, -1, _, by omega, rfl, by go_num, by omega, HC', HB10.out⟩
              case measure => simp [intOf]
            · have HC' := Lib.hid (scan_yes HC.out hq1 hc)
              clear hc
              go_wp2
              go_roundw
              case rel => exact ⟨q, (q : Int), _, by omega, rfl, by go_num, by omega, HC', HB10.out⟩
              case measure => simp [intOf]
          by_cases hz1 : z = -1
          · subst hz1
            obtain rfl : q = 0 := by
              by_cases h : 0 < q
              · exact absurd ⟨rfl, h⟩ hgo
              · omega
            obtain rfl : y = -1 := by omega
            have HP : Hid (pickL ts L = none) := scan_none (by rw [← HUS.out]; exact HC.out)
            have hrr := asg_stop HA.out hLp HP.out
            subst hrr
            have HBX := Lib.hid (bl_trans HB2.out (bl_trans HB8.out HB9.out))
            clear hgo hy
            go_wp2
            go_ret2
            exact ⟨_, _, rfl, (OwnZ.empty _).less HBX.out.size, bl_alloc HBX.out _⟩
          obtain ⟨rfl, hqu⟩ : z = (q : Int) ∧ q < us.length := by
            rcases HC.out with ⟨e, _⟩ | ⟨e, h, _⟩
            · exact absurd e hz1
            · exact ⟨e, h⟩
          have hqL : q < L.length := by have := HUL.out; omega
          clear hgo hz1
          have HP : Hid (pickL ts L = some q) := scan_some (by rw [← HUS.out]; exact HC.out)
          obtain ⟨x, hx⟩ : ∃ x, L[q]? = some x := ⟨L[q]'hqL, List.getElem?_eq_getElem _⟩
          have HA' := Lib.hid (asg_go HA.out hx HP.out)
          have HI' : Hid (InL ts (L.eraseIdx q)) := fun i hi => HI.out i ((List.eraseIdx_sublist L q).subset hi)
          have hel : (L.eraseIdx q).length = L.length - 1 := by rw [List.length_eraseIdx, if_pos hqL]
          have HEL := Lib.hid hel
          have HBX := Lib.hid (bl_trans HB8.out HB9.out)
          have HBW := Lib.hid (bl_trans HB2.out HBX.out)
          have HO4q := Lib.hid (HO4.out.below HBX.out)
          have HO6q := Lib.hid (HO6.out.below HBX.out)
          have HZ4q := Lib.hid ((HZ4.out.below HBX.out).more HBX.out.size)
          have HZ6q : Hid (Zs wr wr.heap.size (some ⟨g, 0, none⟩) acc.length (toZ acc)) := by
            have hh := HO6q.out
            rw [← toZ_len acc] at hh
            have := hh.reads
            rw [toZ_len] at this
            exact this
          have c0 := (HZ4q.out.get (toZ_get hx)).2
          rw [Nat.zero_add] at c0
          have hsq := HBW.out.size
          have h4q := HZ4q.out.get (toZ_get hx)
          have h4l := h4q.1
          have qn : ¬ (q : Int) < 0 := by omega
          have qL : (q : Int) < (L.length : Int) := by omega
          have q0 : (0 : Int) ≤ (q : Int) := by omega
          clear hel hx h4q hs8 hs9
          have HX : Hid (y = (q : Int) - 1) := hy
          clear hy
          have hyy : (0 ≤ y) ∨ ¬ (0 ≤ y) := Classical.em _
          have hxn : (toZ acc).length = acc.length := toZ_len acc
          have HXN := Lib.hid hxn
          clear hxn
          rcases hyy with hy0 | hy0
          all_goals (
            go_wp2_with (at_builtin; refine wpList_append_own _ rfl (.tmp 54) (.tmp 55) 25 rfl w.heap.size 3 i0 _ 1 8 Try.underlying25 hi hz0 hz1 hz2 rfl (by decide) _ 1 [.int .i64 (x : Int)] rfl (OwnZ.one wr w.heap.size hsq (x : Int)) ⟨g, 0, none⟩ acc.length c6 ((toZ acc).map (Value.int .i64)) rfl (by rw [List.length_map, HXN.out]; omega) (Zs.cells (HZ6q.out.below (bl_alloc (Below.refl _ _) _))) (zs_one _) (by unfold maxLen; omega) (by omega) (by simp; omega) ?_; intro v5 w5 hown5 hgrow5 _; have HB5q := Lib.hid (show Below wr.heap.size wr w5 from (bl_alloc (Below.refl wr.heap.size wr) _).grown hgrow5 (by simp) (fun q e => Nat.le_of_eq (Option.some.inj e))); have HO5 := Lib.hid (show OwnZ w5 w.heap.size v5 (toZ (x :: acc)) from by unfold OwnZ; rw [toZ_len, List.length_cons, Nat.add_comm]; exact hown5); clear hown5 hgrow5)
            obtain ⟨g5, c5, rfl⟩ : ∃ g5 c5, v5 = .slice (some ⟨g5, 0, none⟩) (x :: acc).length c5 := by
              rcases HO5.out.2 with ⟨e, h0⟩ | ⟨g', cap, cur, e, _⟩
              · rw [toZ_len] at h0; simp at h0
              · exact ⟨g', cap, by rw [e, toZ_len]⟩
            have HB5 := Lib.hid (bl_trans HBW.out HB5q.out)
            have HZ5 := Lib.hid ((HZ4q.out.below HB5q.out).more HB5q.out.size)
            have i1 : (q : Int) ≤ (c4 : Int) := by omega
            have i2 : (q : Int) + 1 ≤ (L.length : Int) := by omega
            have i3 : (q : Int) + 1 ≤ (c4 : Int) := by omega
            have i4 : (L.length : Int) ≤ (c4 : Int) := by omega
            have i5 : (0 : Int) ≤ (q : Int) + 1 := by omega
            have kw : IntKind.i64.wrap ((q : Int) + 1) = (q : Int) + 1 := IntWalk.i64_in _ (by omega)
            have kn : ((q : Int) + 1).toNat = q + 1 := by omega
            by_cases hkc : q + 1 = c4
            · subst hkc
              have hLq : L.length = q + 1 := by omega
              have i7 : (q : Int) ≤ (q : Int) + 1 := by omega
              go_wp2
              go_region_law (first | (refine step_append_own rfl (.tmp 57) (.tmp 60) 25 rfl w5.heap.size 3 i0 _ 1 8 Try.underlying25 hi hz0 hz1 hz2 rfl (by decide) _ 0 [] rfl (OwnZ.empty _) ⟨g4, 0, none⟩ q (q + 1) (((toZ L).take q).map (Value.int .i64)) rfl (by rw [List.length_map, List.length_take, toZ_len]; rw [Nat.min_eq_left (by omega)]; omega) (Zs.cells (Zs.take (HZ5.out.below (by repeat (first | with_reducible exact Below.refl w5.heap.size w5 | with_reducible refine Below.drew ?_ | with_reducible refine bl_alloc ?_ _))) (by omega))) (zs_one _) (by unfold maxLen; omega) (by omega) (by simp) ?_; intro v6 w6 hown6 hgrow6 _; have HO6a := Lib.hid (show OwnZ w6 w5.heap.size v6 ((toZ L).take q) from by unfold OwnZ; rw [List.length_take, toZ_len, Nat.min_eq_left (by omega)]; simpa using hown6); have HB6 := Lib.hid (show Below w5.heap.size w5 w6 from (by repeat (first | with_reducible exact Below.refl w5.heap.size w5 | with_reducible refine Below.drew ?_ | with_reducible refine bl_alloc ?_ _) : Below w5.heap.size w5 _).grown hgrow6 (by simp) (fun q e => Nat.le_of_eq (Option.some.inj e))); have HS6 := HB6.out.size; clear hown6 hgrow6) | (have uu := HO6a; clear uu; refine step_append_own rfl (.tmp 61) (.tmp 65) 25 rfl w5.heap.size 3 i0 _ 1 8 Try.underlying25 hi hz0 hz1 hz2 rfl (by decide) v6 ((toZ L).take q).length (((toZ L).take q).map (Value.int .i64)) rfl HO6a.out ⟨g4, 0, none⟩ 0 0 [] rfl rfl (fun j u hu => by simp at hu) (fun u hu => by simp at hu) (by unfold maxLen; rw [List.length_take, toZ_len]; omega) (by rw [List.length_take, toZ_len]; omega) HS6 ?_; intro v7 w7 hown7 hgrow7 _; have HB7 := Lib.hid (show Below w5.heap.size w5 w7 from HB6.out.grown hgrow7 HS6 (fun q e => (World.ownsRow.lt HO6a.out q e).1)); have HO7 := Lib.hid (show OwnZ w7 w5.heap.size v7 ((toZ L).take q) from by unfold OwnZ; simpa using hown7); clear hown7 hgrow7))
              have HE7 : Hid ((toZ L).take q = toZ (L.eraseIdx q)) := by
                show _ = _
                rw [toZ_erase, List.drop_eq_nil_of_le (by rw [toZ_len]; omega), List.append_nil]
              have HO7' : Hid (OwnZ w7 w5.heap.size v7 (toZ (L.eraseIdx q))) := by show OwnZ _ _ _ _; rw [← HE7.out]; exact HO7.out
              obtain ⟨A7, c7, rfl⟩ : ∃ A7 c7, v7 = .slice A7 (L.eraseIdx q).length c7 := by
                obtain ⟨A7, c7, e⟩ := HO7'.out.form
                rw [toZ_len] at e
                exact ⟨A7, c7, e⟩
              have HO5' := Lib.hid (HO5.out.below HB7.out)
              have HB7' := Lib.hid (bl_trans HB5.out HB7.out)
              have HO7'' := Lib.hid (HO7'.out.less HB5.out.size)
              go_wp2
              refine ⟨⟨_, _, _, _, ⟨L.eraseIdx q, ⟨A7, c7, rfl⟩, x :: acc, ⟨g5, c5, rfl⟩, by rw [HEL.out]; simp; omega, HI', HA', HO7''.out, HO5'.out, HB7'.out⟩, rfl, rfl, rfl, rfl⟩, ?_⟩
              simp [sliceLen, HEL.out]
              try omega
            · have j1 : ((q : Int) + 1 == (c4 : Int)) = false := by rw [beq_eq_false_iff_ne]; omega
              have j2 : ¬ (q : Int) + 1 = (c4 : Int) := by omega
              have j4 : ¬ c4 = q + 1 := by omega
              go_wp2
              go_region_law (first | (refine step_append_own rfl (.tmp 57) (.tmp 60) 25 rfl w5.heap.size 3 i0 _ 1 8 Try.underlying25 hi hz0 hz1 hz2 rfl (by decide) _ 0 [] rfl (OwnZ.empty _) ⟨g4, 0, none⟩ q c4 (((toZ L).take q).map (Value.int .i64)) rfl (by rw [List.length_map, List.length_take, toZ_len]; rw [Nat.min_eq_left (by omega)]; omega) (Zs.cells (Zs.take (HZ5.out.below (by repeat (first | with_reducible exact Below.refl w5.heap.size w5 | with_reducible refine Below.drew ?_ | with_reducible refine bl_alloc ?_ _))) (by omega))) (zs_one _) (by unfold maxLen; omega) (by omega) (by simp) ?_; intro v6 w6 hown6 hgrow6 _; have HO6a := Lib.hid (show OwnZ w6 w5.heap.size v6 ((toZ L).take q) from by unfold OwnZ; rw [List.length_take, toZ_len, Nat.min_eq_left (by omega)]; simpa using hown6); have HB6 := Lib.hid (show Below w5.heap.size w5 w6 from (by repeat (first | with_reducible exact Below.refl w5.heap.size w5 | with_reducible refine Below.drew ?_ | with_reducible refine bl_alloc ?_ _) : Below w5.heap.size w5 _).grown hgrow6 (by simp) (fun q e => Nat.le_of_eq (Option.some.inj e))); have HS6 := HB6.out.size; clear hown6 hgrow6) | (have uu := HO6a; clear uu; refine step_append_own rfl (.tmp 61) (.tmp 65) 25 rfl w5.heap.size 3 i0 _ 1 8 Try.underlying25 hi hz0 hz1 hz2 rfl (by decide) v6 ((toZ L).take q).length (((toZ L).take q).map (Value.int .i64)) rfl HO6a.out ⟨g4, q + 1, none⟩ (L.length - (q + 1)) (c4 - (q + 1)) (((toZ L).drop (q + 1)).map (Value.int .i64)) rfl (by rw [List.length_map, List.length_drop, toZ_len]; omega) (Zs.cells (Zs.drop (k := q + 1) (HZ5.out.below HB6.out) (Nat.zero_add _).symm)) (zs_one _) (by unfold maxLen; rw [List.length_take, toZ_len]; omega) (by rw [List.length_take, toZ_len]; omega) HS6 ?_; intro v7 w7 hown7 hgrow7 _; have HB7 := Lib.hid (show Below w5.heap.size w5 w7 from HB6.out.grown hgrow7 HS6 (fun q e => (World.ownsRow.lt HO6a.out q e).1)); have HO7 := Lib.hid (show OwnZ w7 w5.heap.size v7 ((toZ L).take q ++ (toZ L).drop (q + 1)) from by unfold OwnZ; rw [List.length_append, List.length_drop, toZ_len, List.map_append]; exact hown7); clear hown7 hgrow7))
              have HE7 : Hid ((toZ L).take q ++ (toZ L).drop (q + 1) = toZ (L.eraseIdx q)) := (toZ_erase L q).symm
              have HO7' : Hid (OwnZ w7 w5.heap.size v7 (toZ (L.eraseIdx q))) := by show OwnZ _ _ _ _; rw [← HE7.out]; exact HO7.out
              obtain ⟨A7, c7, rfl⟩ : ∃ A7 c7, v7 = .slice A7 (L.eraseIdx q).length c7 := by
                obtain ⟨A7, c7, e⟩ := HO7'.out.form
                rw [toZ_len] at e
                exact ⟨A7, c7, e⟩
              have HO5' := Lib.hid (HO5.out.below HB7.out)
              have HB7' := Lib.hid (bl_trans HB5.out HB7.out)
              have HO7'' := Lib.hid (HO7'.out.less HB5.out.size)
              go_wp2
              refine ⟨?_, ?_⟩
              · repeat apply Exists.intro
                refine ⟨?_, rfl⟩
                exact ⟨L.eraseIdx q, x :: acc, A7, c7, g5, c5, rfl, rfl, by rw [HEL.out]; simp; omega, HI', HA', HO7''.out, HO5'.out, HB7'.out⟩
              · show sliceLen (Value.slice A7 (L.eraseIdx q).length c7) < sliceLen (Value.slice (some ⟨g4, 0, none⟩) L.length c4)
                simp [sliceLen, HEL.out]
                try omega)
end

section
/- Contract of the reference's l4All. Nothing that was there is written. -/
open Go.RowKit
set_option linter.unusedVariables false

theorem info_ints : (Try.prog.info? 25).map (fun i => (i.zero, i.size, i.bytes)) = some (some (.slice none 0 0), 1, 24) := by kernel_rfl
theorem row_below {w w' : World} {B n s : Nat} {e : TypeId} {v : Value} {xs : List Value} (h : w.ownsRow B e s v n xs) (hb : Below w.heap.size w w') : w'.ownsRow B e s v n xs := by
  refine ⟨h.1, ?_⟩
  rcases h.2 with hn | ⟨g, cap, cur, e, h1, hg, h3⟩
  · exact .inl hn
  · refine .inr ⟨g, cap, cur, e, h1, ?_, h3⟩
    have hlt : g < w.heap.size := by
      rcases Nat.lt_or_ge g w.heap.size with hlt | hge
      · exact hlt
      · rw [Array.getElem?_eq_none hge] at hg; cases hg
    exact (hb.block g hlt).trans hg
theorem own_types {w : World} {B B' n : Nat} {v u : Value} {xs : List Value} {zs : List Int} (hv : w.ownsRow B 25 1 v n xs) (hu : OwnZ w B' u zs) : u.ownBlock = none ∨ u.ownBlock ≠ v.ownBlock := by
  rcases hu.2 with ⟨rfl, _⟩ | ⟨g, cap, cur, rfl, _, hg, _⟩
  · exact .inl rfl
  · right
    intro e
    rcases hv.2 with ⟨rfl, _⟩ | ⟨g', cap', cur', rfl, _, hg', _⟩
    · cases e
    · have : g = g' := Option.some.inj e
      subst this
      rw [hg] at hg'
      injection hg' with hg'
      injection hg' with _ h2 _
      exact absurd h2 (by decide)
/-- The value is a list of numbers of the call's own. -/
def CellZ (w : World) (B : Nat) (u : Value) (o : List Nat) : Prop := ∃ b c, u = .slice (some ⟨b, 0, none⟩) o.length c ∧ OwnZ w B u (toZ o)
/-- The value is a list of such lists. -/
def RowsV (w : World) (R B : Nat) (v : Value) (vs : List Value) (os : List (List Nat)) : Prop :=
  vs.length = os.length ∧ w.ownsRow R 25 1 v os.length vs ∧ (∀ u ∈ vs, u.oneCell' = true) ∧ ∀ (i : Nat) (o : List Nat), os[i]? = some o → ∃ u, vs[i]? = some u ∧ CellZ w B u o
theorem CellZ.below {w w' : World} {B : Nat} {u : Value} {o : List Nat} (h : CellZ w B u o) (hb : Below w.heap.size w w') : CellZ w' B u o := by
  obtain ⟨b, c, e, ho⟩ := h
  exact ⟨b, c, e, ho.below hb⟩
theorem RowsV.below {w w' : World} {R B : Nat} {v : Value} {vs : List Value} {os : List (List Nat)} (h : RowsV w R B v vs os) (hb : Below w.heap.size w w') : RowsV w' R B v vs os :=
  ⟨h.1, row_below h.2.1 hb, h.2.2.1, fun i o ho => by
    obtain ⟨u, h1, h2⟩ := h.2.2.2 i o ho
    exact ⟨u, h1, h2.below hb⟩⟩
theorem RowsV.empty (w : World) (B : Nat) : RowsV (w.alloc (.cells #[] 25)) w.heap.size B (.slice (some ⟨w.heap.size, 0, none⟩) 0 0) [] [] :=
  ⟨rfl, ⟨rfl, .inr ⟨w.heap.size, 0, #[], rfl, Nat.le_refl _, heap_alloc_new w _, Nat.le_refl _, Nat.zero_le _, rfl, rfl⟩⟩, (fun u hu => absurd hu (List.not_mem_nil)), (fun i o ho => by simp at ho)⟩
theorem RowsV.one {w : World} {B : Nat} {u : Value} {o : List Nat} (hu : CellZ w B u o) : RowsV (w.alloc (.cells #[u] 25)) w.heap.size B (.slice (some ⟨w.heap.size, 0, none⟩) 1 1) [u] [o] :=
  ⟨rfl, ⟨rfl, .inr ⟨w.heap.size, 1, #[u], rfl, Nat.le_refl _, heap_alloc_new w _, Nat.le_refl _, by decide, rfl, rfl⟩⟩, fun x hx => by
      obtain ⟨b, c, rfl, _⟩ := hu
      simp at hx; subst hx; rfl,
    fun i x hx => by
      cases i with
      | zero => injection hx with hx; subst hx; exact ⟨u, rfl, hu.below (bl_alloc (Below.refl _ _) _)⟩
      | succ i => cases hx⟩
theorem RowsV.app {w w' : World} {R R2 B : Nat} {v v2 v' : Value} {vs vs2 : List Value} {os os2 : List (List Nat)} (h : RowsV w R B v vs os) (h2 : RowsV w R2 B v2 vs2 os2) (hg : w.grownBy w' v.ownBlock) (ho : w'.ownsRow R 25 1 v' (os.length + os2.length) (vs ++ vs2)) : RowsV w' R B v' (vs ++ vs2) (os ++ os2) := by
  refine ⟨by rw [List.length_append, List.length_append, h.1, h2.1], by rw [List.length_append]; exact ho, fun u hu => ?_, fun i o hi => ?_⟩
  · rcases List.mem_append.1 hu with hu | hu
    · exact h.2.2.1 u hu
    · exact h2.2.2.1 u hu
  · have key : ∀ u o, CellZ w B u o → CellZ w' B u o := by
      rintro u o ⟨b, c, e, hz⟩
      exact ⟨b, c, e, World.ownsRow.kept hz hg (own_types h.2.1 hz)⟩
    rcases Nat.lt_or_ge i os.length with hl | hl
    · rw [List.getElem?_append_left hl] at hi
      obtain ⟨u, h3, h4⟩ := h.2.2.2 i o hi
      exact ⟨u, by rw [List.getElem?_append_left (by rw [h.1]; exact hl)]; exact h3, key u o h4⟩
    · rw [List.getElem?_append_right hl] at hi
      obtain ⟨u, h3, h4⟩ := h2.2.2.2 _ o hi
      exact ⟨u, by rw [List.getElem?_append_right (by rw [h.1]; exact hl), h.1]; exact h3, key u o h4⟩
theorem RowsV.cells {w : World} {R B g c : Nat} {vs : List Value} {os : List (List Nat)} (h : RowsV w R B (.slice (some ⟨g, 0, none⟩) os.length c) vs os) : ∀ j u, vs[j]? = some u → w.cell? ((⟨g, 0, none⟩ : Addr).add j) = some u := fun j u hu => h.2.1.cells (g := g) rfl j u hu
theorem pow_five {n m : Nat} (hn : n ≤ 5) (hm : m ≤ 5) : n ^ m ≤ 3125 :=
  Nat.le_trans (Nat.pow_le_pow_left hn m) (Nat.pow_le_pow_right (by decide) hm)
theorem flat_len {α : Type} {l : List Nat} {f : Nat → List α} {k : Nat} (h : ∀ i, (f i).length ≤ k) : (l.flatMap f).length ≤ l.length * k := by
  induction l with
  | nil => simp
  | cons a l ih =>
    rw [List.flatMap_cons, List.length_append, List.length_cons, Nat.succ_mul]
    have := h a
    omega
theorem all_len (n : Nat) : ∀ (m : Nat) (b : List Nat), (allP n m b).length ≤ n ^ m
  | 0, b => by simp [allP]
  | m + 1, b => by
    unfold allP
    have := flat_len (l := List.range n) (k := n ^ m) (f := fun i => if b.contains i then [] else allP n m (b ++ [i])) (fun i => by
      split
      · exact Nat.zero_le _
      · exact all_len n m _)
    rw [List.length_range] at this
    rw [Nat.pow_succ, Nat.mul_comm]
    exact this
def allF (n m : Nat) (b : List Nat) (k : Nat) : List (List Nat) := (List.range k).flatMap fun i => if b.contains i then [] else allP n m (b ++ [i])
theorem allF_len {n m k : Nat} {b : List Nat} (hn : n ≤ 5) (hm : m ≤ 5) (hk : k ≤ 5) : (allF n m b k).length ≤ 15625 := by
  have := flat_len (l := List.range k) (k := n ^ m) (f := fun i => if b.contains i then [] else allP n m (b ++ [i])) (fun i => by
      split
      · exact Nat.zero_le _
      · exact all_len n m _)
  have h2 := pow_five hn hm
  rw [List.length_range] at this
  have h3 : k * n ^ m ≤ 5 * 3125 := Nat.mul_le_mul hk h2
  unfold allF
  omega
theorem allF_has {n m k : Nat} {b : List Nat} (h : b.contains k = true) : allF n m b (k + 1) = allF n m b k := by
  unfold allF
  rw [List.range_succ, List.flatMap_append]
  simp only [List.flatMap_cons, List.flatMap_nil, h, if_true, List.append_nil]
theorem allF_not {n m k : Nat} {b : List Nat} (h : b.contains k = false) : allF n m b (k + 1) = allF n m b k ++ allP n m (b ++ [k]) := by
  unfold allF
  rw [List.range_succ, List.flatMap_append]
  simp only [List.flatMap_cons, List.flatMap_nil, h, List.append_nil, Bool.false_eq_true, if_false]
theorem toZ_snoc (b : List Nat) (k : Nat) : toZ (b ++ [k]) = toZ b ++ [(k : Int)] := by simp [toZ]
theorem has_take {b : List Nat} {j x k : Nat} (h : b[j]? = some x) : (b.take (j + 1)).contains k = ((b.take j).contains k || decide (x = k)) := by
  rw [List.take_add_one, h, Bool.eq_iff_iff]
  simp
  constructor
  · rintro (h | h)
    · exact .inl h
    · exact .inr h.symm
  · rintro (h | h)
    · exact .inl h
    · exact .inr h.symm
theorem row_some {w : World} {R n n0 m c : Nat} {e : TypeId} {v' : Value} {g : Nat} {xs : List Value} (h : w.ownsRow R e 1 v' n xs) (hn : v' = .slice none 0 0 ↔ (Value.slice (some ⟨g, 0, none⟩) n0 c) = .slice none 0 0 ∧ m = 0) : ∃ g5 c5, v' = .slice (some ⟨g5, 0, none⟩) n c5 := by
  rcases h.2 with ⟨e, _⟩ | ⟨g', cap, cur, e, _⟩
  · have := (hn.1 e).1
    cases this
  · exact ⟨g', cap, e⟩
def AllRes (os : List (List Nat)) (B : Nat) (w : World) (e : Ending) (w' : World) : Prop :=
  ∃ (g c' : Nat) (vs : List Value), e = .returned (.slice (some ⟨g, 0, none⟩) os.length c') ∧ Hid (RowsV w' w.heap.size B (.slice (some ⟨g, 0, none⟩) os.length c') vs os) ∧ Below w.heap.size w w'

set_option maxRecDepth 100000 in
set_option maxHeartbeats 4000000 in
theorem sAll_is : ∀ (m : Nat) (w : World) (B n b0 c : Nat) (b : List Nat), b.length + m = n → n ≤ 5 → B ≤ w.heap.size → OwnZ w B (.slice (some ⟨b0, 0, none⟩) b.length c) (toZ b) →
    Calls Try.prog 62 #[.slice (some ⟨b0, 0, none⟩) b.length c, .int .i64 (n : Int)] w (AllRes (allP n m b) B w) := by
  intro m
  induction m with
  | zero =>
    intro w B n b0 c b hbn hn hB ho
    obtain rfl : b.length = n := by omega
    have HO := Lib.hid ho
    clear ho
    go_enter Try.func62, Try.ntmps62
    go_wp2
    go_ret
    exact ⟨w.heap.size, 1, _, rfl, RowsV.one ⟨b0, c, rfl, HO.out⟩, bl_alloc (Below.refl _ _) _⟩
  | succ m ih =>
    intro w B n b0 c b hbn hn hB ho
    obtain ⟨i0, hi, hz0, hz1, hz2⟩ := info_parts info_int
    obtain ⟨i1, hj, hy0, hy1, hy2⟩ := info_parts info_ints
    have HO := Lib.hid ho
    have HZ : Hid (Zs w w.heap.size (some ⟨b0, 0, none⟩) b.length (toZ b)) := by
      have hh := HO.out
      rw [← toZ_len b] at hh
      have := hh.reads
      rw [toZ_len] at this
      exact this
    have IH := Lib.hid ih
    clear ho ih
    have hne : ¬ (b.length : Int) = (n : Int) := by omega
    have hnb : ((b.length : Int) == (n : Int)) = false := by rw [beq_eq_false_iff_ne]; exact hne
    have HN : Hid (b.length + (m + 1) = n) := hbn
    have hbl : b.length ≤ 5 := by omega
    have hm5 : m ≤ 5 := by omega
    clear hbn
    go_enter Try.func62, Try.ntmps62
    go_wp2
    go_loopw [5, 6] (fun v i wr => ∃ (k g c' : Nat) (vs : List Value), k ≤ n ∧ i = .int .i64 k ∧ v = .slice (some ⟨g, 0, none⟩) (allF n m b k).length c' ∧ Hid (RowsV wr w.heap.size B v vs (allF n m b k)) ∧ Below w.heap.size w wr) (fun _ i _ => n - (intOf i).toNat)
    case atStart => exact ⟨0, w.heap.size, 0, [], Nat.zero_le _, rfl, rfl, RowsV.empty w B, bl_alloc (Below.refl _ _) _⟩
    case round =>
      obtain ⟨k, g, c', vs, hk, rfl, rfl, HR, hb⟩ := hrel
      have HB := Lib.hid hb
      have hsz := hb.size
      clear hb
      by_cases hlt : k < n
      · have hlti : (k : Int) < (n : Int) := by omega
        go_wp2
        go_loopw [7, 8] (fun u j wq => ∃ q : Nat, q ≤ b.length ∧ j = .int .i64 q ∧ u = .bool ((b.take q).contains k) ∧ Below wr.heap.size wr wq) (fun _ j _ => b.length - (intOf j).toNat)
        case atStart => exact ⟨0, Nat.zero_le _, rfl, rfl, Below.refl _ _⟩
        case round =>
          obtain ⟨q, hq, rfl, rfl, hb2⟩ := hrel
          have HB2 := Lib.hid hb2
          have hs2 := hb2.size
          clear hb2
          have HZq := Lib.hid ((((HZ.out.below HB.out).more HB.out.size).below HB2.out).more HB2.out.size)
          by_cases hql : q < b.length
          · have hqi : (q : Int) < (b.length : Int) := by omega
            obtain ⟨x, hx⟩ : ∃ x, b[q]? = some x := ⟨b[q]'hql, List.getElem?_eq_getElem _⟩
            have c0 := (HZq.out.get (toZ_get hx)).2
            rw [Nat.zero_add] at c0
            have HT := Lib.hid (has_take (k := k) hx)
            clear hx
            obtain ⟨u, hu⟩ : ∃ u, (b.take q).contains k = u := ⟨_, rfl⟩
            rw [hu] at HT
            simp only [hu]
            clear hu
            cases u
            · by_cases hxk : x = k
              · have hxi : (x : Int) = (k : Int) := by omega
                have HT' : Hid ((b.take (q + 1)).contains k = true) := by show _ = _; rw [HT.out, hxk]; simp
                go_wp2
                go_roundw
                case rel => exact ⟨q + 1, by omega, by go_num, by rw [HT'.out], HB2.out⟩
                case measure => simp [intOf]; omega
              · have hxi : ¬ (x : Int) = (k : Int) := by omega
                have hxb : ((x : Int) == (k : Int)) = false := by rw [beq_eq_false_iff_ne]; exact hxi
                have HT' : Hid ((b.take (q + 1)).contains k = false) := by show _ = _; rw [HT.out]; simp [hxk]
                go_wp2
                go_roundw
                case rel => exact ⟨q + 1, by omega, by go_num, by rw [HT'.out], HB2.out⟩
                case measure => simp [intOf]; omega
            · have HT' : Hid ((b.take (q + 1)).contains k = true) := by show _ = _; rw [HT.out]; rfl
              go_wp2
              go_roundw
              case rel => exact ⟨q + 1, by omega, by go_num, by rw [HT'.out], HB2.out⟩
              case measure => simp [intOf]; omega
          · obtain rfl : q = b.length := by omega
            have hqi : ¬ (b.length : Int) < (b.length : Int) := by omega
            have HRq := Lib.hid (HR.out.below HB2.out)
            have HBq := Lib.hid (bl_trans HB.out HB2.out)
            have HTL : Hid (b.take b.length = b) := List.take_length
            simp only [HTL.out]
            cases hu : b.contains k
            · have HE := Lib.hid (allF_not (n := n) (m := m) hu)
              clear hu
              have HF := Lib.hid (allF_len (k := k) (b := b) hn hm5 (by omega))
              have HP : Hid ((allP n m (b ++ [k])).length ≤ 3125) := Nat.le_trans (all_len n m _) (pow_five hn hm5)
              go_wp2_with (at_builtin; first
                | (refine wpList_append_own _ rfl (.tmp 39) (.tmp 40) 25 rfl wr.heap.size 3 i0 _ 1 8 Try.underlying25 hi hz0 hz1 hz2 rfl (by decide) _ 0 [] rfl (OwnZ.empty wr) ⟨b0, 0, none⟩ b.length c ((toZ b).map (Value.int .i64)) rfl (by rw [List.length_map, toZ_len]; omega) (Zs.cells (HZq.out.below (bl_alloc (Below.refl _ _) _))) (zs_one _) (by unfold maxLen; omega) (by omega) (by simp) ?_; intro v1 w2 hown1 hgrow1 _; have HB3 := Lib.hid (show Below wr.heap.size wr w2 from (bl_alloc (Below.refl wr.heap.size wr) _).grown hgrow1 (by simp) (fun q e => Nat.le_of_eq (Option.some.inj e))); have HO1 := Lib.hid (show OwnZ w2 wr.heap.size v1 (toZ b) from by unfold OwnZ; rw [toZ_len]; simpa using hown1); have hs3 := HB3.out.size; clear hown1 hgrow1)
                | (have uu := HO1; clear uu; refine wpList_append_own _ rfl (.tmp 41) (.tmp 43) 25 rfl wr.heap.size 3 i0 _ 1 8 Try.underlying25 hi hz0 hz1 hz2 rfl (by decide) v1 (toZ b).length ((toZ b).map (Value.int .i64)) rfl (World.ownsRow.alloc HO1.out _) ⟨w2.heap.size, 0, none⟩ 1 1 [.int .i64 (k : Int)] rfl rfl (by have hx := cell_one_new w2 (.int .i64 (k : Int)) 3; simpa using hx) (by intro u hu; simp at hu; subst hu; rfl) (by rw [toZ_len]; unfold maxLen; omega) (by rw [toZ_len]; omega) (by simp; omega) ?_; intro v2 w3 hown2 hgrow2 _; have HB4 := Lib.hid (show Below wr.heap.size wr w3 from (bl_alloc HB3.out _).grown hgrow2 (by simp; omega) (fun q e => (World.ownsRow.lt HO1.out q e).1)); have HO2 := Lib.hid (show OwnZ w3 wr.heap.size v2 (toZ (b ++ [k])) from by rw [toZ_snoc]; exact OwnZ.snoc hown2); clear hown2 hgrow2))
              obtain ⟨b1, c2, rfl⟩ : ∃ b1 c2, v2 = .slice (some ⟨b1, 0, none⟩) (b ++ [k]).length c2 := by
                rcases HO2.out.2 with ⟨e, h0⟩ | ⟨g', cap, cur, e, _⟩
                · rw [toZ_len] at h0; simp at h0
                · exact ⟨g', cap, by rw [e, toZ_len]⟩
              have hs4 := HB4.out.size
              refine (IH.out w3 B n b1 c2 (b ++ [k]) (by have := HN.out; simp; omega) hn (by omega) (HO2.out.less (by omega))).mono ?_
              rintro e w4 ⟨g4, c4, vs4, rfl, HR4, hb4⟩
              have HB5 := Lib.hid (bl_trans HB4.out hb4)
              have HRa := Lib.hid (HRq.out.below HB5.out)
              clear hb4
              have hfl : (allF n m b k).length + (allP n m (b ++ [k])).length ≤ 18750 := by have := HF.out; have := HP.out; omega
              have hs5 := HB5.out.size
              go_wp2_with (at_builtin; refine wpList_append_own _ rfl (.tmp 38) (.tmp 46) 63 rfl w.heap.size 25 i1 _ 1 24 Try.underlying63 hj hy0 hy1 hy2 rfl (by decide) (.slice (some ⟨g, 0, none⟩) (allF n m b k).length c') (allF n m b k).length vs rfl HRa.out.2.1 ⟨g4, 0, none⟩ (allP n m (b ++ [k])).length c4 vs4 rfl (by rw [HR4.out.1]; omega) (RowsV.cells HR4.out) HR4.out.2.2.1 (by unfold maxLen; omega) (by omega) (by omega) ?_; intro v5 w5 hown5 hgrow5 hnil5; have HR5 := Lib.hid (RowsV.app HRa.out HR4.out hgrow5 hown5); have HB6 := Lib.hid ((bl_trans HBq.out HB5.out).grown hgrow5 (by omega) (fun q e => (World.ownsRow.lt HRa.out.2.1 q e).1)); have HG5 := Lib.hid (row_some hown5 hnil5); clear hown5 hgrow5 hnil5 hfl)
              obtain ⟨g5, c5, rfl⟩ := HG5.out
              go_wp2
              go_roundw
              case rel => exact ⟨k + 1, g5, c5, vs ++ vs4, by omega, by go_num, by rw [HE.out, List.length_append], by rw [HE.out]; exact HR5, HB6.out⟩
              case measure => simp [intOf]; omega
            · have HE := Lib.hid (allF_has (n := n) (m := m) hu)
              clear hu
              go_wp2
              go_roundw
              case rel => exact ⟨k + 1, g, c', vs, by omega, by go_num, by rw [HE.out], by rw [HE.out]; exact HRq, HBq.out⟩
              case measure => simp [intOf]; omega
      · obtain rfl : k = n := by omega
        have hlti : ¬ (k : Int) < (k : Int) := by omega
        go_wp2
        go_ret
        exact ⟨g, c', vs, rfl, HR, HB.out⟩
end

section
/- Contracts of the reference's AnyOrder and CountOrders. Nothing that was there is written. -/
open Go.RowKit
set_option linter.unusedVariables false

/-- A list of numbers that reads so, and whether there is one. -/
def ZsRd2 (zs : List Int) (b : Bool) (w : World) (e : Ending) (w' : World) : Prop :=
  ∃ (A : Option Addr) (c : Nat), e = .returned (.tuple #[.slice A zs.length c, .bool b]) ∧ OwnZ w' w.heap.size (.slice A zs.length c) zs ∧ Below w.heap.size w w'
theorem find_at {α : Type} {p : α → Bool} {l : List α} {k : Nat} {x : α} (h : ∀ i y, i < k → l[i]? = some y → p y = false) (hx : l[k]? = some x) (hp : p x = true) : l.find? p = some x := by
  induction l generalizing k with
  | nil => cases hx
  | cons a l ih =>
    cases k with
    | zero =>
      injection hx with hx
      subst hx
      rw [List.find?_cons, hp]
    | succ k =>
      rw [List.find?_cons, h 0 a (by omega) rfl]
      exact ih (fun i y hi hy => h (i + 1) y (by omega) hy) hx
theorem find_not {α : Type} {p : α → Bool} {l : List α} (h : ∀ i y, i < l.length → l[i]? = some y → p y = false) : l.find? p = none := by
  rw [List.find?_eq_none]
  intro x hx
  obtain ⟨i, hi⟩ := List.mem_iff_getElem?.1 hx
  rw [h i x (List.getElem?_eq_some_iff.1 hi).1 hi]
  decide
theorem filter_take {α : Type} {p : α → Bool} {l : List α} {k : Nat} {x : α} (hx : l[k]? = some x) : ((l.take (k + 1)).filter p).length = ((l.take k).filter p).length + (if p x then 1 else 0) := by
  rw [List.take_add_one, hx, Option.toList_some, List.filter_append, List.length_append]
  congr 1
  cases hp : p x <;> simp [hp]
def NRes (r : Nat) (w : World) (e : Ending) (w' : World) : Prop := e = .returned (.int .i64 (r : Int)) ∧ Below w.heap.size w w'

set_option maxRecDepth 100000 in
set_option maxHeartbeats 2000000 in
theorem sCount_is (w : World) (A : Option Addr) (n c : Nat) (ts : List Tk) (h : Tks w w.heap.size A n ts) (hn : n ≤ 1048576) (r : Nat) (hr : cntOf ts = r) :
    Calls Try.prog 27 #[.slice A n c] w (NRes r w) := by
  have H := Lib.hid h
  have HL := Lib.hid h.len
  clear h
  cases hs : setB ts
  · obtain rfl : r = 0 := by rw [← hr]; exact cnt_bad hs
    have HS := Lib.hid hs
    clear hr hs
    go_enter Try.func27, Try.ntmps27
    go_wp2_with fail
    refine (sSetValid_any _ A n c ts H.out hn).mono ?_
    rintro e w1 ⟨rfl, hb1⟩
    rw [HS.out]
    have HB1 := Lib.hid hb1
    clear hb1
    go_wp2
    go_ret
    exact ⟨rfl, HB1.out⟩
  have h5 := setB_len hs
  rw [HL.out] at h5
  have HR : Hid (((allOf n).filter fun o => hBoth (putN ts o)).length = r) := by show _ = _; rw [← hr]; unfold cntOf; rw [if_pos hs, HL.out]
  have HS := Lib.hid hs
  clear hr hs
  go_enter Try.func27, Try.ntmps27
  go_wp2_with fail
  refine (sSetValid_any _ A n c ts H.out hn).mono ?_
  rintro e w1 ⟨rfl, hb1⟩
  rw [HS.out]
  have HB1 := Lib.hid hb1
  clear hb1
  go_wp2_with fail
  refine (sAll_is n _ w.heap.size n w1.heap.size 0 [] (by simp) h5 (by have := HB1.out.size; simp; omega) ((OwnZ.empty w1).less HB1.out.size)).mono ?_
  rintro e w2 ⟨g, c', vs, rfl, HV, hb2⟩
  have HB2 := Lib.hid (bl_trans (bl_alloc HB1.out _) hb2)
  clear hb2
  obtain ⟨os, hos⟩ : ∃ os, os = allP n n [] := ⟨_, rfl⟩
  have HP : Hid (∀ o ∈ os, o.Perm (List.range n)) := by
    show ∀ o ∈ os, _
    rw [hos]
    exact fun o ho => all_perm h5 ho
  have hol : os.length ≤ 3125 := by rw [hos]; exact Nat.le_trans (all_len n n []) (pow_five h5 h5)
  have HR2 : Hid ((os.filter fun o => hBoth (putN ts o)).length = r) := by show _ = _; rw [hos]; exact HR.out
  rw [← hos] at HV ⊢
  clear hos HR
  go_wp2
  go_loopw [3, 5] (fun m i wr => ∃ k : Nat, k ≤ os.length ∧ i = .int .i64 k ∧ m = .int .i64 (((os.take k).filter fun o => hBoth (putN ts o)).length : Int) ∧ Below w2.heap.size w2 wr) (fun _ i _ => os.length - (intOf i).toNat)
  case atStart => exact ⟨0, Nat.zero_le _, rfl, by simp, Below.refl _ _⟩
  case round =>
    obtain ⟨k, hk, rfl, rfl, hb⟩ := hrel
    have HB := Lib.hid hb
    have hsz := hb.size
    clear hb
    by_cases hlt : k < os.length
    · have hlti : (k : Int) < (os.length : Int) := by omega
      obtain ⟨o, ho⟩ : ∃ o, os[k]? = some o := ⟨os[k]'hlt, List.getElem?_eq_getElem _⟩
      have hop := HP.out o (List.mem_of_getElem? ho)
      have hoi : Hid (InL ts o) := fun i hi => by rw [HL.out]; exact List.mem_range.1 (hop.mem_iff.1 hi)
      have hol2 : o.length = n := by have := hop.length_eq; simpa using this
      have HT := Lib.hid (filter_take (p := fun o => hBoth (putN ts o)) ho)
      obtain ⟨u, hu, b2, c2, rfl, hoz⟩ := (HV.out.below HB.out).2.2.2 k o ho
      have c0 : wr.cell? ⟨g, k, none⟩ = some (.slice (some ⟨b2, 0, none⟩) o.length c2) := by
        have := (HV.out.below HB.out).cells k _ hu
        rw [addr_add, Nat.zero_add] at this
        exact this
      have HZO : Hid (Zs wr wr.heap.size (some ⟨b2, 0, none⟩) o.length (toZ o)) := by
        rw [← toZ_len o] at hoz
        have := hoz.reads
        rw [toZ_len] at this
        exact this
      have HLO := Lib.hid hol2
      clear ho hu hoz hop hol2
      obtain ⟨q, hq⟩ : ∃ q, hBoth (putN ts o) = q := ⟨_, rfl⟩
      have HQ := Lib.hid hq
      have HBw := Lib.hid (bl_trans HB2.out HB.out)
      have hm : ((os.take k).filter fun o => hBoth (putN ts o)).length ≤ os.length := Nat.le_trans (List.length_filter_le _ _) (by rw [List.length_take]; omega)
      obtain ⟨m, hmm⟩ : ∃ m, ((os.take k).filter fun o => hBoth (putN ts o)).length = m := ⟨_, rfl⟩
      have HT' : Hid (((os.take (k + 1)).filter fun o => hBoth (putN ts o)).length = m + (if q then 1 else 0)) := by show _ = _; rw [HT.out, hmm]; simp only [hq]
      rw [hmm] at hm
      simp only [hmm]
      clear hq hmm HT
      go_wp2_with fail
      refine (sPut_is wr A n c ts (some ⟨b2, 0, none⟩) o.length c2 o (tks_to H.out HBw.out) HZO.out hoi.out (by have := HLO.out; omega)).mono ?_
      rintro e w3 ⟨A3, c3, rfl, ho3, hb3⟩
      have HB3 := Lib.hid (bl_trans HB.out hb3)
      have HO3 := Lib.hid ho3
      clear ho3 hb3
      go_wp2_with fail
      refine (sHBoth_is w3 A3 _ c3 (putN ts o) HO3.out.reads.2 (by have := HLO.out; rw [put_len]; omega) q HQ.out).mono ?_
      rintro e w4 ⟨rfl, hb4⟩
      have HB4 := Lib.hid (bl_trans HB3.out hb4)
      clear hb4
      cases q
      · go_wp2
        go_roundw
        case rel => exact ⟨k + 1, by omega, by go_num, by rw [HT'.out]; rfl, HB4.out⟩
        case measure => simp [intOf]; omega
      · go_wp2
        go_roundw
        case rel => exact ⟨k + 1, by omega, by go_num, by rw [HT'.out]; go_num, HB4.out⟩
        case measure => simp [intOf]; omega
    · obtain rfl : k = os.length := by omega
      have hlti : ¬ (os.length : Int) < (os.length : Int) := by omega
      simp only [List.take_length, HR2.out]
      go_wp2
      go_ret
      exact ⟨rfl, bl_trans HB2.out HB.out⟩

set_option maxRecDepth 100000 in
set_option maxHeartbeats 2000000 in
theorem sAny_is (w : World) (A : Option Addr) (n c : Nat) (ts : List Tk) (h : Tks w w.heap.size A n ts) (hn : n ≤ 1048576) (r : Option (List Nat)) (hr : anyOf ts = r) :
    Calls Try.prog 28 #[.slice A n c] w (ZsRes2 (asgR r) r.isSome w) := by
  have H := Lib.hid h
  have HL := Lib.hid h.len
  clear h
  cases hs : setB ts
  · obtain rfl : r = none := by rw [← hr]; exact any_bad hs
    have HS := Lib.hid hs
    clear hr hs
    go_enter Try.func28, Try.ntmps28
    go_wp2_with fail
    refine (sSetValid_any _ A n c ts H.out hn).mono ?_
    rintro e w1 ⟨rfl, hb1⟩
    rw [HS.out]
    have HB1 := Lib.hid hb1
    clear hb1
    go_wp2
    go_ret2
    exact ⟨_, _, rfl, (OwnZ.empty w1).less HB1.out.size, bl_alloc HB1.out _⟩
  have h5 := setB_len hs
  rw [HL.out] at h5
  have HR : Hid (((allOf n).find? fun o => hBoth (putN ts o)) = r) := by show _ = _; rw [← hr]; unfold anyOf; rw [if_pos hs, HL.out]
  have HS := Lib.hid hs
  clear hr hs
  go_enter Try.func28, Try.ntmps28
  go_wp2_with fail
  refine (sSetValid_any _ A n c ts H.out hn).mono ?_
  rintro e w1 ⟨rfl, hb1⟩
  rw [HS.out]
  have HB1 := Lib.hid hb1
  clear hb1
  go_wp2_with fail
  refine (sAll_is n _ w.heap.size n w1.heap.size 0 [] (by simp) h5 (by have := HB1.out.size; simp; omega) ((OwnZ.empty w1).less HB1.out.size)).mono ?_
  rintro e w2 ⟨g, c', vs, rfl, HV, hb2⟩
  have HB2 := Lib.hid (bl_trans (bl_alloc HB1.out _) hb2)
  clear hb2
  obtain ⟨os, hos⟩ : ∃ os, os = allP n n [] := ⟨_, rfl⟩
  have HP : Hid (∀ o ∈ os, o.Perm (List.range n)) := by
    show ∀ o ∈ os, _
    rw [hos]
    exact fun o ho => all_perm h5 ho
  have hol : os.length ≤ 3125 := by rw [hos]; exact Nat.le_trans (all_len n n []) (pow_five h5 h5)
  have HR2 : Hid ((os.find? fun o => hBoth (putN ts o)) = r) := by show _ = _; rw [hos]; exact HR.out
  rw [← hos] at HV ⊢
  clear hos HR
  go_wp2
  go_loopw [5] (fun i wr => ∃ k : Nat, k ≤ os.length ∧ i = .int .i64 k ∧ Hid (∀ j y, j < k → os[j]? = some y → hBoth (putN ts y) = false) ∧ Below w2.heap.size w2 wr) (fun i _ => os.length - (intOf i).toNat)
  case atStart => exact ⟨0, Nat.zero_le _, rfl, (fun j y h _ => by omega), Below.refl _ _⟩
  case round =>
    obtain ⟨k, hk, rfl, HNO, hb⟩ := hrel
    have HB := Lib.hid hb
    have hsz := hb.size
    clear hb
    by_cases hlt : k < os.length
    · have hlti : (k : Int) < (os.length : Int) := by omega
      obtain ⟨o, ho⟩ : ∃ o, os[k]? = some o := ⟨os[k]'hlt, List.getElem?_eq_getElem _⟩
      have hop := HP.out o (List.mem_of_getElem? ho)
      have hoi : Hid (InL ts o) := fun i hi => by rw [HL.out]; exact List.mem_range.1 (hop.mem_iff.1 hi)
      have hol2 : o.length = n := by have := hop.length_eq; simpa using this
      have HOK := Lib.hid ho
      have HLT := Lib.hid hlt
      obtain ⟨u, hu, b2, c2, rfl, hoz⟩ := (HV.out.below HB.out).2.2.2 k o ho
      have c0 : wr.cell? ⟨g, k, none⟩ = some (.slice (some ⟨b2, 0, none⟩) o.length c2) := by
        have := (HV.out.below HB.out).cells k _ hu
        rw [addr_add, Nat.zero_add] at this
        exact this
      have HZO : Hid (Zs wr wr.heap.size (some ⟨b2, 0, none⟩) o.length (toZ o)) := by
        rw [← toZ_len o] at hoz
        have := hoz.reads
        rw [toZ_len] at this
        exact this
      have HLO := Lib.hid hol2
      clear ho hu hoz hop hol2
      obtain ⟨q, hq⟩ : ∃ q, hBoth (putN ts o) = q := ⟨_, rfl⟩
      have HQ := Lib.hid hq
      have HBw := Lib.hid (bl_trans HB2.out HB.out)
      clear hq
      go_wp2_with fail
      refine (sPut_is wr A n c ts (some ⟨b2, 0, none⟩) o.length c2 o (tks_to H.out HBw.out) HZO.out hoi.out (by have := HLO.out; omega)).mono ?_
      rintro e w3 ⟨A3, c3, rfl, ho3, hb3⟩
      have HB3 := Lib.hid (bl_trans HB.out hb3)
      have HO3 := Lib.hid ho3
      clear ho3 hb3
      go_wp2_with fail
      refine (sHBoth_is w3 A3 _ c3 (putN ts o) HO3.out.reads.2 (by have := HLO.out; rw [put_len]; omega) q HQ.out).mono ?_
      rintro e w4 ⟨rfl, hb4⟩
      have HB4 := Lib.hid (bl_trans HB3.out hb4)
      clear hb4
      cases q
      · have HNO' : Hid (∀ j y, j < k + 1 → os[j]? = some y → hBoth (putN ts y) = false) := fun j y hj hy => by
          rcases Nat.lt_or_ge j k with h | h
          · exact HNO.out j y h hy
          · obtain rfl : j = k := by omega
            have := HOK.out
            rw [hy] at this
            injection this with this
            rw [this]; exact HQ.out
        go_wp2
        go_roundw
        case rel => exact ⟨k + 1, by omega, by go_num, HNO', HB4.out⟩
        case measure => simp [intOf]; omega
      · have hrr : r = some o := HR2.out.symm.trans (find_at HNO.out HOK.out HQ.out)
        subst hrr
        obtain ⟨u, hu, b3, c3', rfl, hoz⟩ := (HV.out.below HB4.out).2.2.2 k o HOK.out
        have c1 : w4.cell? ⟨g, k, none⟩ = some (.slice (some ⟨b3, 0, none⟩) o.length c3') := by
          have := (HV.out.below HB4.out).cells k _ hu
          rw [addr_add, Nat.zero_add] at this
          exact this
        have HOZ := Lib.hid hoz
        clear hu hoz
        go_wp2
        go_ret2
        exact ⟨some ⟨b3, 0, none⟩, c3', by show _ = Ending.returned (.tuple #[.slice _ (toZ o).length c3', _]); rw [toZ_len]; rfl, by show OwnZ _ _ (.slice _ (toZ o).length c3') _; rw [toZ_len]; exact HOZ.out, bl_trans HB2.out HB4.out⟩
    · obtain rfl : k = os.length := by omega
      have hlti : ¬ (os.length : Int) < (os.length : Int) := by omega
      have hrr : r = none := HR2.out.symm.trans (find_not HNO.out)
      subst hrr
      have HBE := Lib.hid (bl_trans HB2.out HB.out)
      go_wp2
      go_ret2
      exact ⟨_, _, rfl, (OwnZ.empty _).less HBE.out.size, bl_alloc HBE.out _⟩
end

section
/- Contracts of what the reference draws as arguments of chapter 4's functions; nothing that was there is written. -/
open Go.RowKit
set_option linter.unusedVariables false

theorem Own.take {w : World} {B n c : Nat} {g : Nat} {ts : List Tk} (h : Own w B (.slice (some ⟨g, 0, none⟩) n c) ts) {k : Nat} (hk : k ≤ ts.length) : Own w B (.slice (some ⟨g, 0, none⟩) (ts.take k).length c) (ts.take k) := by
  have hl : (ts.take k).length = k := by rw [List.length_take]; omega
  unfold Own
  rw [hl]
  refine ⟨by rw [cells_length, hl], ?_⟩
  rcases h.2 with ⟨e, h0⟩ | ⟨g', cap, cur, e, hb, hg, h1, h2, h3, h4⟩
  · cases e
  · injection e with e1 e2 e3
    injection e1 with e1
    injection e1 with e1
    subst e1
    refine .inr ⟨g, cap, cur, by rw [e3], hb, hg, by omega, h2, h3, ?_⟩
    have ht : (ts.take k).flatMap Tk.cells = (ts.flatMap Tk.cells).take (k * 5) := (take_cells ts k).symm
    rw [ht, ← h4, List.take_take, Nat.min_eq_left (Nat.mul_le_mul_right _ hk)]
def DrewLZ (w : World) (e : Ending) (w' : World) : Prop :=
  ∃ (A : Option Addr) (c : Nat) (ts : List Tk) (A2 : Option Addr) (c2 : Nat) (zs : List Int), e = .returned (.tuple #[.slice A ts.length c, .slice A2 zs.length c2]) ∧ ts.length ≤ 6 ∧ zs.length ≤ 7 ∧ Own w' w.heap.size (.slice A ts.length c) ts ∧ OwnZ w' w.heap.size (.slice A2 zs.length c2) zs ∧ Below w.heap.size w w'

theorem drewL1 {w w1 w2 : World} {v : Value} {ts : List Tk} (h1 : Below w.heap.size w w1) (h2 : w1.grownBy w2 (some w.heap.size)) (ho : Own w2 w1.heap.size v ts) (hl : ts.length ≤ 6) : DrewL1 6 w (.returned v) w2 := by
  obtain ⟨A, c, rfl⟩ := ho.form
  exact ⟨A, c, ts, rfl, hl, own_more ho h1.size, below_of_gb h1 h2 h1.size (Nat.le_refl _)⟩
set_option maxRecDepth 100000 in
set_option maxHeartbeats 1000000 in
theorem l4Few_any (w : World) (A : Option Addr) (n c : Nat) (f : Nat → Int) (h : Code w w.heap.size A n c f) :
    Calls Try.prog 52 #[.slice A n c] w (DrewL1 6 w) := by
  have H := Lib.hid h
  clear h
  go_enter Try.func52, Try.ntmps52
  go_wp2_with fail
  refine (open_any _ A n c f H.out).mono ?_
  rintro e w1 ⟨rfl, m, hr, hb⟩
  have HR := Lib.hid hr
  have HB := Lib.hid hb
  clear hr hb
  go_wp2_with fail
  refine (some_any _ _ _ _ _ _ _ _ HR.out (by omega)).mono ?_
  rintro e w2 ⟨v, ts, p, rfl, hl, hg, hp, hr, hgb, ho⟩
  obtain ⟨A2, c2, rfl⟩ := ho.form
  have HB2 := Lib.hid (below_of_gb HB.out hgb HB.out.size (Nat.le_refl _))
  have HO2 := Lib.hid (own_more ho HB.out.size)
  clear hr hgb ho hg
  by_cases h5 : ts.length = 5
  · obtain ⟨g, rfl, hcap, hcm⟩ : ∃ g, A2 = some ⟨g, 0, none⟩ ∧ ts.length ≤ c2 ∧ c2 ≤ maxLen := by
      rcases HO2.out.2 with ⟨e, h0⟩ | ⟨g, cap, cur, e, _, _, h1, h2, _⟩
      · omega
      · injection e with e1 e2 e3
        subst e3
        exact ⟨g, e1, h1, h2⟩
    have h5i : (ts.length : Int) = 5 := by omega
    have i1 : (4 : Int) ≤ (c2 : Int) := by omega
    have HT := Lib.hid (HO2.out.take (k := 4) (by omega))
    have hl4 : (ts.take 4).length = 4 := by rw [List.length_take]; omega
    have HL4 := Lib.hid hl4
    clear hl4
    go_wp2
    go_ret
    exact ⟨_, c2, ts.take 4, by rw [HL4.out]; rfl, by rw [HL4.out]; omega, HT.out, HB2.out⟩
  · have h5i : ¬ (ts.length : Int) = 5 := by omega
    go_wp2
    go_ret
    exact ⟨A2, c2, ts, rfl, hl, HO2.out, HB2.out⟩

set_option maxRecDepth 100000 in
theorem dDrawAnyOrder_any (w : World) (A : Option Addr) (n c : Nat) (f : Nat → Int) (h : Code w w.heap.size A n c f) :
    Calls Try.prog 18 #[.slice A n c] w (DrewL1 6 w) := by
  have H := Lib.hid h
  clear h
  go_enter Try.func18, Try.ntmps18
  go_wp2_with fail
  refine (l4Few_any _ A n c f H.out).mono ?_
  rintro e w1 ⟨A2, c2, ts, rfl, hl, ho, hb⟩
  have HX : Hid (DrewL1 6 w (.returned (.slice A2 ts.length c2)) w1) := ⟨A2, c2, ts, rfl, hl, ho, hb⟩
  clear hl ho hb
  go_wp2_with fail
  go_ret
  exact HX.out

set_option maxRecDepth 100000 in
theorem dDrawCountOrders_any (w : World) (A : Option Addr) (n c : Nat) (f : Nat → Int) (h : Code w w.heap.size A n c f) :
    Calls Try.prog 25 #[.slice A n c] w (DrewL1 6 w) := by
  have H := Lib.hid h
  clear h
  go_enter Try.func25, Try.ntmps25
  go_wp2_with fail
  refine (l4Few_any _ A n c f H.out).mono ?_
  rintro e w1 ⟨A2, c2, ts, rfl, hl, ho, hb⟩
  have HX : Hid (DrewL1 6 w (.returned (.slice A2 ts.length c2)) w1) := ⟨A2, c2, ts, rfl, hl, ho, hb⟩
  clear hl ho hb
  go_wp2_with fail
  go_ret
  exact HX.out
end

end Go.Proofs.Ytgoblabcggbfjaa
