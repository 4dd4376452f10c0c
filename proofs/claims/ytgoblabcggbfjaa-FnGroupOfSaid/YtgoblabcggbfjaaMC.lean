/- Texts of this seat in one file: PNxD, PFst, PRev, PNxt, PRf, Zcl, PAll, PHo, PCnt, PCat, PCatT, PCan, PAsg, POrd. -/
import Derived.Test.YtgoblabcggbfjaaMB
import Derived.RangeFuncNested
import Derived.RangeFuncLeaves
import Derived.Shelf.Abstract
import Derived.Lib.AppendZeros
import Derived.Deep.RegionWith
import Derived.Test.YtgoblabcggbfjaaMA
import Derived.Shelf.AbstractIn
import Derived.Deep.LoopGhost
import Derived.Shelf.RegionOpen
import Derived.WalkKit
import Derived.OwnWalkIn
import Derived.TacticsInMore
import Derived.LoopNIn
import Derived.LoopIn
import Derived.RangeFuncBox
namespace Go.Proofs.Ytgoblabcggbfjaa

section
/- The next order, as plain data (no program text). -/
open Go.RowKit
set_option linter.unusedVariables false

def swpL (o : List Int) (i j : Nat) : List Int := (o.set i (o.getD j 0)).set j (o.getD i 0)
def revR (off m : Nat) : Nat → List Int → List Int
  | 0, o => o
  | k + 1, o => swpL (revR off m k o) (off + k) (off + (m - 1 - k))
/-- One more than the last place behind which something is greater; 0 if there is none. -/
def findAt (o : List Int) : Nat → Nat
  | 0 => 0
  | a + 1 => if o.getD (a + 1) 0 < o.getD a 0 then findAt o a else a + 1
def findG (o : List Int) (x : Int) : Nat → Nat
  | 0 => 0
  | g + 1 => if o.getD (g + 1) 0 < x then findG o x g else g + 1
def nextL (o : List Int) : Option (List Int) :=
  match findAt o (o.length - 1) with
  | 0 => none
  | a + 1 => some (revR (a + 1) (o.length - (a + 1)) ((o.length - (a + 1)) / 2) (swpL o a (findG o (o.getD a 0) (o.length - 1))))
theorem swp_len (o : List Int) (i j : Nat) : (swpL o i j).length = o.length := by simp [swpL]
theorem rev_len (off m k : Nat) (o : List Int) : (revR off m k o).length = o.length := by
  induction k with
  | zero => rfl
  | succ k ih => unfold revR; rw [swp_len, ih]
def chainB : List (List Int) → Bool
  | [] => true
  | [a] => decide (nextL a = none)
  | a :: b :: r => decide (nextL a = some b) && chainB (b :: r)
theorem chain_at : ∀ {l : List (List Int)} {k : Nat} {a : List Int}, chainB l = true → l[k]? = some a → nextL a = l[k + 1]?
  | [], k, a, _, h => by simp at h
  | [x], k, a, hc, h => by
    cases k with
    | zero =>
      injection h with h
      subst h
      simp only [chainB, decide_eq_true_iff] at hc
      rw [hc]; rfl
    | succ k => simp at h
  | x :: y :: r, k, a, hc, h => by
    simp only [chainB, Bool.and_eq_true, decide_eq_true_iff] at hc
    cases k with
    | zero =>
      injection h with h
      subst h
      rw [hc.1]; rfl
    | succ k => exact chain_at (l := y :: r) hc.2 h
set_option maxRecDepth 100000 in
theorem all_chain : ∀ {n : Nat}, n ≤ 5 → chainB ((allOf n).map toZ) = true := by
  have h : ∀ n, n < 6 → chainB ((allOf n).map toZ) = true := by decide +kernel
  intro n hn
  exact h n (by omega)
theorem next_of {n k : Nat} {o : List Nat} (hn : n ≤ 5) (h : (allOf n)[k]? = some o) : nextL (toZ o) = ((allOf n)[k + 1]?).map toZ := by
  have := chain_at (all_chain hn) (k := k) (a := toZ o) (by rw [List.getElem?_map, h]; rfl)
  rw [this, List.getElem?_map]
theorem findAt_le (o : List Int) : ∀ k, findAt o k ≤ k
  | 0 => Nat.le_refl _
  | a + 1 => by
    unfold findAt
    split
    · exact Nat.le_trans (findAt_le o a) (Nat.le_succ _)
    · exact Nat.le_refl _
end

section
/- Contracts of the program's firstOrder and tasksAt. Nothing that was there is written. -/
open Go.RowKit
set_option linter.unusedVariables false

def firstZ (n k : Nat) : List Int := (List.range n).map fun j => if j < k then (j : Int) else 0
theorem firstZ_len (n k : Nat) : (firstZ n k).length = n := by simp [firstZ]
theorem firstZ_zero (n : Nat) : firstZ n 0 = List.replicate n 0 := by
  unfold firstZ
  refine List.ext_getElem? fun j => ?_
  rw [List.getElem?_map, List.getElem?_replicate]
  by_cases hj : j < n
  · rw [List.getElem?_range hj, if_pos hj]; rfl
  · rw [if_neg hj, List.getElem?_eq_none (by simpa using hj)]; rfl
theorem firstZ_all (n : Nat) : firstZ n n = toZ (List.range n) := by
  unfold firstZ toZ
  refine List.map_congr_left fun j hj => ?_
  rw [if_pos (List.mem_range.1 hj)]; rfl
theorem firstZ_set {n k : Nat} (hk : k < n) : (firstZ n k).set k (k : Int) = firstZ n (k + 1) := by
  refine List.ext_getElem? fun j => ?_
  rw [List.getElem?_set, firstZ_len]
  unfold firstZ
  rw [List.getElem?_map, List.getElem?_map]
  by_cases hj : j < n
  · rw [List.getElem?_range hj]
    by_cases hkj : k = j
    · subst hkj; simp [hj]
    · rw [if_neg hkj]
      by_cases h : j < k
      · simp only [Option.map_some]; rw [if_pos h, if_pos (by omega)]
      · simp only [Option.map_some]; rw [if_neg h, if_neg (by omega)]
  · rw [List.getElem?_eq_none (by simpa using hj)]
    by_cases hkj : k = j
    · omega
    · rw [if_neg hkj]; rfl
theorem firstZ_get {n k j : Nat} (hj : j < n) : ∃ z, (firstZ n k)[j]? = some z := ⟨_, List.getElem?_eq_getElem (by rw [firstZ_len]; exact hj)⟩

set_option maxHeartbeats 2000000 in
theorem iFirst_is (w : World) (n : Nat) (hn : n ≤ 5) :
    Calls Try.prog 53 #[.int .i64 (n : Int)] w fun e w' => e = .returned (.slice (some ⟨w.heap.size, 0, none⟩) n n) ∧ OwnZ w' w.heap.size (.slice (some ⟨w.heap.size, 0, none⟩) n n) (toZ (List.range n)) ∧ Below w.heap.size w w' := by
  obtain ⟨i0, hi, hz0, hz1, hz2⟩ := info_parts info_int
  go_enter Try.func53, Try.ntmps53
  go_wp2_with (at_make; refine wpList_make_full _ rfl _ _ 25 rfl w.heap.size 3 i0 _ 1 Try.underlying25 hi hz0 hz1 .i64 .i64 _ _ n rfl rfl rfl rfl (by rw [hz2]; omega) (by unfold maxLen; omega) (Nat.le_refl _) ?_; intro w2 hown0 hgrow0)
  have HO0 : Hid (OwnZ w2 w.heap.size (.slice (some ⟨w.heap.size, 0, none⟩) n n) (firstZ n 0)) := by
    show w2.ownsRow _ _ _ _ _ _
    rw [firstZ_zero, ← made_int, List.length_replicate]
    exact hown0
  have HB2 := Lib.hid ((Below.refl _ w).grown hgrow0 (Nat.le_refl _) (fun k e => by cases e))
  clear hown0 hgrow0
  go_wp2
  go_loopw [9] (fun i wr => ∃ k : Nat, k ≤ n ∧ i = .int .i64 k ∧ OwnZ wr w.heap.size (.slice (some ⟨w.heap.size, 0, none⟩) n n) (firstZ n k) ∧ Below w.heap.size w wr) (fun i _ => n - (intOf i).toNat)
  case atStart => exact ⟨0, Nat.zero_le _, rfl, HO0.out, HB2.out⟩
  case round =>
    obtain ⟨k, hk, rfl, ho, hb⟩ := hrel
    have HO := Lib.hid ho
    have HB := Lib.hid hb
    have hsz := hb.size
    clear ho hb
    by_cases hlt : k < n
    · obtain ⟨y, hy⟩ := firstZ_get (k := k) hlt
      have HP := Lib.hid (firstZ_set hlt)
      have hfz := HO.out.frozen k
      have hrd : Zs wr wr.heap.size (some ⟨w.heap.size, 0, none⟩) n (firstZ n k) := by
        have ho := HO.out
        have hl := firstZ_len n k
        have ho' : OwnZ wr w.heap.size (.slice (some ⟨w.heap.size, 0, none⟩) (firstZ n k).length n) (firstZ n k) := by rw [hl]; exact ho
        have := ho'.reads
        rwa [hl] at this
      have d0 := (hrd.get hy).2
      rw [Nat.zero_add] at d0
      have i2 : (k : Int) < (n : Int) := by omega
      clear hy hrd
      go_wp2
      go_roundw
      case rel => exact ⟨k + 1, by omega, by go_num, by rw [← HP.out]; exact HO.out.put k (k : Int), bl_set HB.out (by dsimp only; omega) _⟩
      case measure => simp [intOf]; omega
    · obtain rfl : k = n := by omega
      have hlti : ¬ (k : Int) < (k : Int) := by omega
      go_wp2
      go_ret
      exact ⟨rfl, by rw [← firstZ_all]; exact HO.out, HB.out⟩

set_option maxRecDepth 100000 in
set_option maxHeartbeats 2000000 in
theorem iTasksAt_is (w : World) (A : Option Addr) (n c : Nat) (ts : List Tk) (A2 : Option Addr) (n2 c2 : Nat) (o : List Nat) (h : Tks w w.heap.size A n ts) (h2 : Zs w w.heap.size A2 n2 (toZ o)) (ho : InL ts o) (hl : o.length ≤ 100) :
    Calls Try.prog 55 #[.slice A n c, .slice A2 n2 c2] w (LsRes (putN ts o) w) := by
  obtain ⟨i0, hi, hz0, hz1, hz2⟩ := info_parts info_task
  have H := Lib.hid h
  have H2 := Lib.hid h2
  have HL := Lib.hid h.len
  have HL2 : Hid (o.length = n2) := by show _ = _; rw [← toZ_len]; exact h2.len
  have HI := Lib.hid ho
  clear h h2 ho
  have hn2 : n2 ≤ 100 := by rw [← HL2.out]; exact hl
  go_enter Try.func55, Try.ntmps55
  go_wp2_with (at_make; refine wpList_make_own _ rfl _ _ 23 rfl w.heap.size 36 i0 _ 5 Try.underlying23 hi hz0 hz1 .i64 .i64 _ n2 rfl rfl rfl (by rw [hz2]; omega) (by unfold maxLen; omega) (Nat.le_refl _) ?_; intro w2 hown0 hgrow0)
  have HO0 : Hid (Own w2 w.heap.size (.slice (some ⟨w.heap.size, 0, none⟩) 0 n2) []) := hown0
  have HB2 := Lib.hid ((Below.refl _ w).grown hgrow0 (Nat.le_refl _) (fun k e => by cases e))
  clear hown0 hgrow0
  go_wp2
  go_loopw [5, 13] (fun v i wr => ∃ k : Nat, k ≤ n2 ∧ i = .int .i64 k ∧ Own wr w.heap.size v (putN ts (o.take k)) ∧ Below w.heap.size w wr) (fun _ i _ => n2 - (intOf i).toNat)
  case atStart => exact ⟨0, Nat.zero_le _, rfl, HO0.out, HB2.out⟩
  case round =>
    obtain ⟨k, hk, rfl, ho, hb⟩ := hrel
    have HO := Lib.hid ho
    have HB := Lib.hid hb
    have hsz : w.heap.size ≤ wr.heap.size := hb.size
    clear ho hb
    by_cases hlt : k < n2
    · have hlti : (k : Int) < (n2 : Int) := by omega
      obtain ⟨x, hx⟩ : ∃ x, o[k]? = some x := ⟨o[k]'(by rw [HL2.out]; exact hlt), List.getElem?_eq_getElem _⟩
      obtain ⟨b2, o2, rfl, hb2, g0⟩ := (H2.out.below HB.out).at_ k _ (toZ_get hx)
      have hxn : x < n := by rw [← HL.out]; exact HI.out x (List.mem_of_getElem? hx)
      have hxi : (x : Int) < (n : Int) := by omega
      obtain ⟨t, ht⟩ : ∃ t, ts[x]? = some t := ⟨ts[x]'(by rw [HL.out]; exact hxn), List.getElem?_eq_getElem _⟩
      obtain ⟨b, of, rfl, hbl, c0, c1, c2', c3, c4⟩ := (H.out.below HB.out).at_ x t ht
      have HT := Lib.hid (put_take hx ht)
      have hlen : (putN ts (o.take k)).length ≤ 100 := by rw [put_len, List.length_take]; omega
      clear hx ht
      obtain ⟨lo, hi', du, ev, cr⟩ := t
      dsimp only at c0 c1 c2' c3 c4
      have b1 : (putN ts (o.take k)).length + 1 ≤ maxLen := by unfold maxLen; omega
      have b2' : ((putN ts (o.take k)).length + 1) * 40 ≤ 140737488355328 := by omega
      go_wp2_with (at_builtin; refine wpList_append_own _ rfl (.tmp 17) (.tmp 22) 23 rfl w.heap.size 36 i0 _ 5 40 Try.underlying23 hi hz0 hz1 hz2 rfl (by decide) _ (putN ts (o.take k)).length ((putN ts (o.take k)).flatMap Tk.cells) rfl (HO.out.alloc _) ⟨wr.heap.size, 0, none⟩ 1 1 (Tk.cells ⟨lo, hi', du, ev, cr⟩) rfl rfl (cell_new5 _ ⟨lo, hi', du, ev, cr⟩ _) (by intro u hu; exact cells_one [⟨lo, hi', du, ev, cr⟩] u (by simpa using hu)) b1 b2' (by simp; omega) ?_; intro v' w4 hown' hgrow _)
      have HO4 := Lib.hid (Own.snoc hown')
      have HB4 := Lib.hid ((bl_alloc HB.out _).grown hgrow (by simp; omega) (fun k e => (World.ownsRow.lt HO.out k e).1))
      clear hown' hgrow hlen b1 b2'
      go_wp2
      go_roundw
      case rel => exact ⟨k + 1, by omega, by go_num, by rw [HT.out]; exact HO4.out, HB4.out⟩
      case measure => simp [intOf]; omega
    · obtain rfl : k = n2 := by omega
      have hlti : ¬ (k : Int) < (k : Int) := by omega
      go_wp2
      go_ret
      exact lsRes_of HO.out HB.out (by rw [List.take_of_length_le (by rw [HL2.out]; exact Nat.le_refl _)])
end

section
/- Contract of slices.Reverse at numbers of the call's own. -/
open Go.RowKit
set_option linter.unusedVariables false

theorem getD_at {o : List Int} {j : Nat} (h : j < o.length) : o[j]? = some (o.getD j 0) := by rw [List.getD_eq_getElem?_getD, List.getElem?_eq_getElem h]; rfl
theorem OwnZ.cell_ {w : World} {B g n c : Nat} {zs : List Int} (h : OwnZ w B (.slice (some ⟨g, 0, none⟩) n c) zs) {j : Nat} (hj : j < zs.length) : w.cell? ⟨g, j, none⟩ = some (.int .i64 (zs.getD j 0)) := by
  have hn : n = zs.length := by
    rcases h.2 with ⟨e, h0⟩ | ⟨g', cap, cur, e, _⟩
    · cases e
    · injection e
  subst hn
  have := (h.reads.get (getD_at hj)).2
  rwa [Nat.zero_add] at this
theorem OwnZ.drewN {w : World} {B : Nat} {v : Value} {zs : List Int} (h : OwnZ w B v zs) (k : Nat) : OwnZ (w.drewN k) B v zs := h

set_option maxRecDepth 100000 in
set_option maxHeartbeats 2000000 in
theorem iRev_is (w : World) (B g n c off m cap : Nat) (zs : List Int) (h : OwnZ w B (.slice (some ⟨g, 0, none⟩) n c) zs) (hl : zs.length = n) (hoff : off + m = n) (hn : n ≤ 5) :
    Calls Try.prog 109 #[.slice (some ⟨g, off, none⟩) m cap] w fun e w' => e = .returned (.tuple #[]) ∧ OwnZ w' B (.slice (some ⟨g, 0, none⟩) n c) (revR off m (m / 2) zs) ∧ w.grownBy w' (some g) := by
  have H := Lib.hid h
  have HL := Lib.hid hl
  clear h hl
  go_enter Try.func109, Try.ntmps109
  go_wp2
  go_loopw [2, 3] (fun i j wr => ∃ (k : Nat) (z : Int), k ≤ m / 2 ∧ i = .int .i64 k ∧ z = (m : Int) - 1 - (k : Int) ∧ j = .int .i64 z ∧ OwnZ wr B (.slice (some ⟨g, 0, none⟩) n c) (revR off m k zs) ∧ w.grownBy wr (some g)) (fun i _ _ => m - (intOf i).toNat)
  case atStart => exact ⟨0, (m : Int) - 1, Nat.zero_le _, rfl, by omega, by go_num, H.out, World.grownBy.refl _ _⟩
  case round =>
    obtain ⟨k, z, hk, rfl, hz, rfl, ho, hg⟩ := hrel
    have HO := Lib.hid ho
    have HG := Lib.hid hg
    clear ho hg
    by_cases hlt : (k : Int) < z
    · have hj : (z : Int) = ((m - 1 - k : Nat) : Int) := by omega
      obtain rfl := hj
      have hk2 : k + 1 ≤ m / 2 := by omega
      have hjm : ((m - 1 - k : Nat) : Int) < (m : Int) := by omega
      have hkm : (k : Int) < (m : Int) := by omega
      have hrl : (revR off m k zs).length = n := by rw [rev_len, HL.out]
      obtain ⟨x, hx⟩ : ∃ x, (revR off m k zs).getD (off + k) 0 = x := ⟨_, rfl⟩
      obtain ⟨y, hy⟩ : ∃ y, (revR off m k zs).getD (off + (m - 1 - k)) 0 = y := ⟨_, rfl⟩
      have c0 := HO.out.cell_ (j := off + k) (by rw [hrl]; omega)
      have c1 := HO.out.cell_ (j := off + (m - 1 - k)) (by rw [hrl]; omega)
      rw [hx] at c0
      rw [hy] at c1
      have HR : Hid (revR off m (k + 1) zs = ((revR off m k zs).set (off + k) y).set (off + (m - 1 - k)) x) := by
        show swpL _ _ _ = _
        unfold swpL
        rw [hx, hy]
      have f0 := HO.out.frozen (off + k)
      have f1 := HO.out.frozen (off + (m - 1 - k))
      clear hz hrl hx hy
      go_wp2_with fail
      go_region
      go_wp2
      go_roundw
      case rel =>
        exact ⟨k + 1, ((m - 1 - k : Nat) : Int) - 1, hk2, by go_num, by omega, by go_num, by rw [HR.out]; exact (HO.out.put (off + k) y).put (off + (m - 1 - k)) x, gb_set (gb_set (gb_drewN HG.out 1) (.inl rfl) _) (.inl rfl) _⟩
      case measure => simp [intOf]; omega
    · have hkk : k = m / 2 := by omega
      subst hkk
      go_wp2
      go_end0
      exact ⟨rfl, HO.out, HG.out⟩
end

section
/- Contract of the program's nextOrder: the block of the order alone is written. -/
open Go.RowKit
set_option linter.unusedVariables false

theorem findAt_pos {o : List Int} {p : Nat} (h : o.getD (p + 1) 0 < o.getD p 0) : findAt o (p + 1) = findAt o p := by rw [findAt, if_pos h]
theorem findAt_end {o : List Int} {p : Nat} (h : ¬ o.getD (p + 1) 0 < o.getD p 0) : findAt o (p + 1) = p + 1 := by rw [findAt, if_neg h]
theorem findG_pos {o : List Int} {x : Int} {p : Nat} (h : o.getD (p + 1) 0 < x) : findG o x (p + 1) = findG o x p := by rw [findG, if_pos h]
theorem findG_end {o : List Int} {x : Int} {p : Nat} (h : ¬ o.getD (p + 1) 0 < x) : findG o x (p + 1) = p + 1 := by rw [findG, if_neg h]
theorem next_none {o : List Int} {n : Nat} (hl : o.length = n) (h : findAt o (n - 1) = 0) : nextL o = none := by unfold nextL; rw [hl, h]
theorem next_some {o : List Int} {n p q : Nat} (hl : o.length = n) (h : findAt o (n - 1) = p + 1) (hg : findG o (o.getD p 0) (n - 1) = q) :
    nextL o = some (revR (p + 1) (n - (p + 1)) ((n - (p + 1)) / 2) (swpL o p q)) := by unfold nextL; rw [hl, h]; simp only [hg]

def NextRes (B g n c : Nat) (zs : List Int) (r : Option (List Int)) (w : World) (e : Ending) (w' : World) : Prop :=
  e = .returned (.bool r.isSome) ∧ OwnZ w' B (.slice (some ⟨g, 0, none⟩) n c) (r.getD zs) ∧ w.grownBy w' (some g)

set_option maxRecDepth 100000 in
set_option maxHeartbeats 4000000 in
theorem iNext_is (w : World) (B g n c : Nat) (zs : List Int) (h : OwnZ w B (.slice (some ⟨g, 0, none⟩) n c) zs) (hl : zs.length = n) (hn : n ≤ 5) (r : Option (List Int)) (hr : nextL zs = r) :
    Calls Try.prog 101 #[.slice (some ⟨g, 0, none⟩) n c] w (NextRes B g n c zs r w) := by
  have H := Lib.hid h
  have HL := Lib.hid hl
  have HR := Lib.hid hr
  have hnc : n ≤ c := by
    have h' := h
    rw [← hl] at h' ⊢
    exact h'.le
  clear h hl hr
  go_enter Try.func101, Try.ntmps101
  go_wp2
  go_loopw [3] (fun i wr => ∃ (a : Nat) (z : Int), a ≤ n - 1 ∧ (z = (a : Int) - 1 ∨ (z = -2 ∧ a = 0)) ∧ i = .int .i64 z ∧ Hid (findAt zs (n - 1) = findAt zs a) ∧ OwnZ wr B (.slice (some ⟨g, 0, none⟩) n c) zs ∧ w.grownBy wr (some g)) (fun i _ => (intOf i + 1).toNat)
  case atStart =>
    refine ⟨n - 1, (n : Int) - 2, Nat.le_refl _, by omega, by go_num, rfl, H.out, World.grownBy.refl _ _⟩
  case round =>
    obtain ⟨a, z, ha, hz, rfl, HF, ho, hg⟩ := hrel
    have HO := Lib.hid ho
    have HG := Lib.hid hg
    clear ho hg
    by_cases h0 : a = 0
    · subst h0
      have hz1 : z < 0 := by omega
      have hz2 : decide (0 ≤ z) = false := decide_eq_false (by omega)
      obtain rfl : r = none := by rw [← HR.out]; exact next_none HL.out HF.out
      clear hz
      go_wp2
      go_quiet (fail)
      go_wp2
      go_ret
      exact ⟨rfl, HO.out.drewN _, gb_drewN HG.out _⟩
    · obtain ⟨p, rfl⟩ : ∃ p, a = p + 1 := ⟨a - 1, by omega⟩
      obtain rfl : z = (p : Int) := by omega
      clear hz h0
      have hp0 : (0 : Int) ≤ (p : Int) := by omega
      have hpn : (p : Int) < (n : Int) := by omega
      have hpn1 : (p : Int) + 1 < (n : Int) := by omega
      have hpl : p + 1 < zs.length := by rw [HL.out]; omega
      obtain ⟨x, hx⟩ : ∃ x, zs.getD p 0 = x := ⟨_, rfl⟩
      obtain ⟨y, hy⟩ : ∃ y, zs.getD (p + 1) 0 = y := ⟨_, rfl⟩
      have c0 := HO.out.cell_ (j := p) (by omega)
      have c1 := HO.out.cell_ (j := p + 1) hpl
      rw [hx] at c0
      rw [hy] at c1
      have hw1 : IntKind.i64.wrap ((p : Int) + 1) = (p : Int) + 1 := IntWalk.i64_in _ (by omega)
      have hn1 : ((p : Int) + 1).toNat = p + 1 := by omega
      have HX := Lib.hid hx
      have HY := Lib.hid hy
      clear hx hy hpl
      by_cases hlt : y < x
      · have HF2 : Hid (findAt zs (n - 1) = findAt zs p) := HF.out.trans (findAt_pos (by rw [HX.out, HY.out]; exact hlt))
        go_wp2
        go_quiet (fail)
        go_wp2
        go_roundw
        case rel => exact ⟨p, (p : Int) - 1, by omega, .inl rfl, by go_num, HF2, HO.out.drewN _, gb_drewN HG.out _⟩
        case measure => simp [intOf]
      · have HF2 : Hid (findAt zs (n - 1) = p + 1) := HF.out.trans (findAt_end (by rw [HX.out, HY.out]; exact hlt))
        have hle : x ≤ y := by omega
        go_wp2
        go_quiet (fail)
        go_wp2
        have hnm : (n : Int) - 1 = ((n - 1 : Nat) : Int) := by omega
        have HW := Lib.hid (gb_drewN HG.out nq)
        have HZ := Lib.hid (HO.out.drewN nq)
        clear c0 c1
        go_loopw [4] (fun i wr => ∃ q : Nat, p + 1 ≤ q ∧ q ≤ n - 1 ∧ i = .int .i64 q ∧ Hid (findG zs x (n - 1) = findG zs x q) ∧ OwnZ wr B (.slice (some ⟨g, 0, none⟩) n c) zs ∧ w.grownBy wr (some g)) (fun i _ => (intOf i).toNat)
        case atStart => exact ⟨n - 1, ha, Nat.le_refl _, by rw [hnm], rfl, HZ.out, HW.out⟩
        case round =>
          obtain ⟨q, hq1, hq2, rfl, HQ, ho, hg⟩ := hrel
          have HO2 := Lib.hid ho
          have HG2 := Lib.hid hg
          clear ho hg HO HG
          obtain ⟨q', rfl⟩ : ∃ q', q = q' + 1 := ⟨q - 1, by omega⟩
          obtain ⟨v, hv⟩ : ∃ v, zs.getD (q' + 1) 0 = v := ⟨_, rfl⟩
          have c0 := HO2.out.cell_ (j := p) (by rw [HL.out]; omega)
          have c1 := HO2.out.cell_ (j := q' + 1) (by rw [HL.out]; omega)
          rw [HX.out] at c0
          rw [hv] at c1
          have HV := Lib.hid hv
          clear hv
          have hqn : ((q' + 1 : Nat) : Int) < (n : Int) := by omega
          by_cases hgt : v < x
          · have hne : q' ≠ p := by
              rintro rfl
              have h1 := HY.out
              rw [HV.out] at h1
              omega
            have HQ2 : Hid (findG zs x (n - 1) = findG zs x q') := HQ.out.trans (findG_pos (by rw [HV.out]; exact hgt))
            go_wp2
            go_quiet (fail)
            go_wp2
            go_roundw
            case rel => exact ⟨q', by omega, by omega, by go_num, HQ2, HO2.out.drewN _, gb_drewN HG2.out _⟩
            case measure => simp [intOf]
          · have HQ2 : Hid (findG zs (zs.getD p 0) (n - 1) = q' + 1) := by show _ = _; rw [HX.out]; exact HQ.out.trans (findG_end (by rw [HV.out]; exact hgt))
            have HR2 : Hid (r = some (revR (p + 1) (n - (p + 1)) ((n - (p + 1)) / 2) (swpL zs p (q' + 1)))) := HR.out.symm.trans (next_some HL.out HF2.out HQ2.out)
            have HSW : Hid (swpL zs p (q' + 1) = (zs.set p v).set (q' + 1) x) := by show swpL _ _ _ = _; unfold swpL; rw [HX.out, HV.out]
            have f0 := HO2.out.frozen p
            have f1 := HO2.out.frozen (q' + 1)
            go_wp2
            go_quiet (fail)
            go_wp2_with fail
            go_region
            have hrl : (swpL zs p (q' + 1)).length = n := by rw [swp_len, HL.out]
            have HRL := Lib.hid hrl
            have HSO : Hid (OwnZ (((wr.drewN nq).drew.setCell ⟨g, p, none⟩ (.int .i64 v)).setCell ⟨g, q' + 1, none⟩ (.int .i64 x)) B (.slice (some ⟨g, 0, none⟩) n c) (swpL zs p (q' + 1))) := by
              show OwnZ _ _ _ _
              rw [HSW.out]
              exact ((HO2.out.drewN (nq + 1)).put p v).put (q' + 1) x
            have HSG : Hid (w.grownBy (((wr.drewN nq).drew.setCell ⟨g, p, none⟩ (.int .i64 v)).setCell ⟨g, q' + 1, none⟩ (.int .i64 x)) (some g)) := gb_set (gb_set (gb_drewN HG2.out (nq + 1)) (.inl rfl) _) (.inl rfl) _
            have k1 : (p : Int) + 1 ≤ (n : Int) := by omega
            have k2 : (p : Int) + 1 ≤ (c : Int) := by omega
            have k3 : (0 : Int) ≤ (p : Int) + 1 := by omega
            have k4 : (n : Int) ≤ (c : Int) := by omega
            have k5 : ((p : Int) + 1 == (c : Int)) = false := by rw [beq_eq_false_iff_ne]; omega
            have k6 : ¬ (p : Int) + 1 = (c : Int) := by omega
            have k7 : ¬ c = p + 1 := by omega
            clear c0 c1 f0 f1 hrl
            go_wp2_with fail
            refine (iRev_is _ B g n c (p + 1) (n - (p + 1)) (c - (p + 1)) _ HSO.out HRL.out (by omega) hn).mono ?_
            rintro e w3 ⟨rfl, ho3, hg3⟩
            have HO3 := Lib.hid ho3
            have HG3 := Lib.hid (gb_trans HSG.out hg3 (fun y h => .inl (Option.some.inj h).symm))
            clear ho3 hg3
            go_wp2
            go_ret
            rw [HR2.out]
            exact ⟨rfl, HO3.out, HG3.out⟩
end

section
/- A law of ranges over functions whose iterators write memory of their own between two rounds: the iterator keeps what lay below its call's beginning, the round keeps what lies from there on. -/
open Go.RowKit
set_option linter.unusedVariables false

/-- The blocks of S lie as they lay. -/
structure Kept (S : Nat → Prop) (W W' : World) : Prop where
  os : W'.os = W.os
  tape : W'.tape = W.tape
  output : W'.output = W.output
  size : W.heap.size ≤ W'.heap.size
  block : ∀ k, S k → k < W.heap.size → W'.heap[k]? = W.heap[k]?
theorem Kept.refl (S : Nat → Prop) (W : World) : Kept S W W := ⟨rfl, rfl, rfl, Nat.le_refl _, fun _ _ _ => rfl⟩
theorem Kept.trans {S : Nat → Prop} {X Y Z : World} (h : Kept S X Y) (k : Kept S Y Z) : Kept S X Z :=
  ⟨k.os.trans h.os, k.tape.trans h.tape, k.output.trans h.output, Nat.le_trans h.size k.size, fun i hi hl => (k.block i hi (Nat.lt_of_lt_of_le hl h.size)).trans (h.block i hi hl)⟩
theorem Kept.mono {S S' : Nat → Prop} {X Y : World} (h : Kept S X Y) (hs : ∀ k, k < X.heap.size → S' k → S k) : Kept S' X Y :=
  ⟨h.os, h.tape, h.output, h.size, fun i hi hl => h.block i (hs i hl hi) hl⟩
theorem Kept.of_below {S : Nat → Prop} {X Y : World} (h : Below X.heap.size X Y) : Kept S X Y := ⟨h.os, h.tape, h.output, h.size, fun i _ hl => h.block i hl⟩
theorem Kept.put {S : Nat → Prop} (X : World) (r : Nat) (o : Obj) (hr : ¬ S r) : Kept S X (X.putObj r o) :=
  ⟨rfl, rfl, rfl, by simp, fun k hk _ => World.putObj_heap_other (fun e => hr (e ▸ hk))⟩
theorem Kept.set {S : Nat → Prop} (X : World) (p : Addr) (v : Value) (hr : ¬ S p.block) : Kept S X (X.setCell p v) :=
  ⟨rfl, rfl, rfl, by simp [World.setCell], fun k hk _ => Below.heap_setCell X p v k (fun e => hr (by rw [← e]; exact hk))⟩
theorem Kept.heap {S : Nat → Prop} {X Y : World} (h : Kept S X Y) {k : Nat} {o : Obj} (hk : S k) (ho : X.heap[k]? = some o) : Y.heap[k]? = some o :=
  (h.block k hk (Array.getElem?_eq_some_iff.1 ho).1).trans ho

/-- The value of an order that is handed over. -/
def vO (n b : Nat) : Value := .slice (some ⟨b, 0, none⟩) n n
/-- What the blocks are that a round keeps: those of S0 and all from B on. -/
def KeepS (S0 : Nat → Prop) (B : Nat) : Nat → Prop := fun k => S0 k ∨ B ≤ k

/-- A function value that hands over the orders os, one after another. -/
def OrdSeq (g : Nat) (lb : Array Value) (n : Nat) (os : List (List Nat)) (S0 : Nat → Prop) (W : World) : Prop :=
  ∀ (l : Nat) (J Jx : Nat → World → Prop),
    (∀ k A A', J k A → Below W.heap.size A A' → J k A') →
    (∀ k A r o o', Jx k A → W.heap.size ≤ r → A.heap[r]? = some o → o.isCells = false → Jx k (A.putObj r o')) →
    (∀ k o b W1, os[k]? = some o → J k W1 → W.heap.size ≤ b → OwnZ W1 W.heap.size (vO n b) (toZ o) →
      YieldAt Fence.wide 1 Try.prog l #[vO n b] W1 fun e W' =>
        (e = .returned (.bool true) ∧ J (k + 1) W' ∧ Kept (KeepS S0 W.heap.size) W1 W') ∨ (e = .returned (.bool false) ∧ Jx k W' ∧ Kept (KeepS S0 W.heap.size) W1 W')) →
    J 0 W →
    Calls Try.prog g (#[.func (.yield l) #[] #[]] ++ lb) W fun e W' => (∃ v, e = .returned v) ∧ (J os.length W' ∨ ∃ k, k < os.length ∧ Jx k W')

/-- How the body of a round may be left. -/
def ordPost (S : Nat → Prop) (I Ix : Nat → World → Prop) (k : Nat) (W : World) : Exit → Act → World → Prop
  | .normal, _, W' => Kept S W W' ∧ I (k + 1) W'
  | .ret, _, W' => Kept S W W' ∧ Ix k W'
  | .exit _, _, _ => False
  | .goto _, _, _ => False
  | .panic _, _, _ => False
  | .outgrown, _, _ => False

theorem wpIn_rangeOrd {g : Operand} {p : Tmp} {assign body : Go.Code} {Q : Exit → Act → World → Prop} {a : Act} {w : World} {n m : Nat} {gf : Nat} {lb : Array Value} {os : List (List Nat)} {S0 : Nat → Prop}
    (hg : a.eval g = .func (.func gf) #[] lb) (eg : ∀ args w, (callFunc gf args).run Try.prog w = .ok (.enter gf args) w)
    (hS0 : ∀ k, S0 k → k < w.heap.size)
    (hseq : ∀ W1, Below w.heap.size w W1 → OrdSeq gf lb m os S0 W1)
    (I Ix : Nat → World → Prop) (hI : ∀ k A A', I k A → Below w.heap.size A A' → I k A')
    (hIx : ∀ k A r o o', Ix k A → w.heap.size ≤ r → A.heap[r]? = some o → o.isCells = false → Ix k (A.putObj r o'))
    (h0 : I 0 w) (a₁ : Nat → Act)
    (hassign : ∀ (l b : Nat) (W : World) (K : Act → World → Prop), K (a₁ b) W →
      assign.wpIn (Fence.wide.inRound l) 1 Try.prog (Exit.then K (fun _ _ _ => False)) { tmps := a.tmps.setIfInBounds p (vO m b), defers := [] } W)
    (hbody : ∀ (l k : Nat) (o : List Nat) (b : Nat) (W : World), os[k]? = some o → I k W → w.heap.size ≤ b → OwnZ W w.heap.size (vO m b) (toZ o) →
      body.wpIn (Fence.wide.inRound l) 1 Try.prog (ordPost (KeepS S0 w.heap.size) I Ix k W) (a₁ b) W)
    (hdone : ∀ (W : World), I os.length W → W.heap[w.heap.size]? = some (.deferred (some [])) → Q .normal { a with defers := { target := .collected w.heap.size, args := #[] } :: a.defers } W)
    (hstop : ∀ (k : Nat) (W : World), k < os.length → Ix k W → W.heap[w.heap.size]? = some (.deferred (some [])) → Go.Code.ret.wpIn Fence.wide n Try.prog Q { a with defers := { target := .collected w.heap.size, args := #[] } :: a.defers } W) :
    (Go.Code.rangeFunc g #[p] assign body).wpIn Fence.wide n Try.prog Q a w := by
  refine wpIn_rangeFunc ?_
  intro fn hfn
  obtain ⟨rec, hrec⟩ : ∃ rec : LoopState → Option Go.Code → Loop, rec = fun st pe => { state := st, pending := pe, fn, tmps := a.tmps, params := #[p], assign, body, defers := w.heap.size } := ⟨_, rfl⟩
  obtain ⟨W1, hW1⟩ : ∃ W1, (w.alloc (.deferred (some []))).alloc (.loop (rec .ready none)) = W1 := ⟨_, rfl⟩
  have hb1 : Below w.heap.size w W1 := by rw [← hW1]; exact bl_alloc (bl_alloc (Below.refl _ _) _) _
  have hs1 : W1.heap.size = w.heap.size + 2 := by rw [← hW1]; simp
  have hL1 : W1.heap[w.heap.size + 1]? = some (.loop (rec .ready none)) := by
    rw [← hW1]; have := World.alloc_heap_new (w.alloc (.deferred (some []))) (.loop (rec .ready none)); rwa [World.size_alloc] at this
  have hK1 : W1.heap[w.heap.size]? = some (.deferred (some [])) := by
    rw [← hW1]; exact (Below.heap_alloc _ _ _ (by simp)).trans (World.alloc_heap_new w _)
  have hI1 : I 0 W1 := hI 0 w W1 h0 hb1
  have hput : ∀ k A (r : Nat) (o : Obj), I k A → w.heap.size ≤ r → I k (A.putObj r o) := fun k A r o hi hr =>
    hI k A _ hi ⟨rfl, rfl, rfl, by simp, fun j hj => World.putObj_heap_other (by omega)⟩
  refine ⟨w.heap.size + 1, [{ target := .collected w.heap.size, args := #[] }], W1, { target := .fn (.func gf) lb, args := #[.func (.yield (w.heap.size + 1)) #[] #[]] }, W1, gf,
    #[.func (.yield (w.heap.size + 1)) #[] #[]] ++ lb, W1, ?_, ?_, ?_, ?_, (fun h => by cases h), ?_⟩
  · rw [← hW1, hrec]; exact run_enterLoop_outer _ _ _ _ _
  · simp only [resolve, hg]
    simp [go_sem]
  · intro f' hf'; trivial
  · simp [invoke, go_sem, eg]
  · refine callsIn_wide.2 ((hseq W1 hb1 (w.heap.size + 1)
      (fun k W => I k W ∧ W.heap[w.heap.size + 1]? = some (.loop (rec .ready none)) ∧ W.heap[w.heap.size]? = some (.deferred (some [])))
      (fun k W => Ix k W ∧ W.heap[w.heap.size + 1]? = some (.loop (rec .done (some .ret))) ∧ W.heap[w.heap.size]? = some (.deferred (some [])))
      ?_ ?_ ?_ ⟨hI1, hL1, hK1⟩).mono ?_)
    · rintro k A A' ⟨h1, h2, h3⟩ hb
      exact ⟨hI k A A' h1 (hb.mono (by omega)), (hb.block _ (by omega)).trans h2, (hb.block _ (by omega)).trans h3⟩
    · rintro k A r o o' ⟨h1, h2, h3⟩ hr ho hc
      exact ⟨hIx k A r o o' h1 (by omega) ho hc, (World.putObj_heap_other (by omega)).trans h2, (World.putObj_heap_other (by omega)).trans h3⟩
    · -- one round
      rintro k o b W ho ⟨hi, hl, hk⟩ hb hown
      have hlt : w.heap.size + 1 < W.heap.size := (Array.getElem?_eq_some_iff.1 hl).1
      have hy : (Instr.yield (w.heap.size + 1) #[vO m b]).run Try.prog W = .ok (.round (w.heap.size + 1) fn (a.tmps.setIfInBounds p (vO m b)) assign body) W := by
        have hy := run_yield (P := Try.prog) (args := #[vO m b]) hl (by rw [hrec]; rfl)
        rw [hrec] at hy
        simpa using hy
      refine ⟨fn, _, assign, body, hy, roundIn_of_wpIn hfn (hassign _ b W _ ?_)⟩
      refine ⟨_, run_beginRound hl (by rw [hrec]), ?_⟩
      have hl2 : (W.putObj (w.heap.size + 1) (.loop { rec .ready none with state := .busy })).heap[w.heap.size + 1]? = some (.loop { rec .ready none with state := .busy }) := World.putObj_heap_same hlt
      have hk2 : (W.putObj (w.heap.size + 1) (.loop { rec .ready none with state := .busy })).heap[w.heap.size]? = some (.deferred (some [])) := (World.putObj_heap_other (by omega)).trans hk
      have hown2 : OwnZ (W.putObj (w.heap.size + 1) (.loop { rec .ready none with state := .busy })) w.heap.size (vO m b) (toZ o) :=
        OwnZ.less (B := W1.heap.size) (ownsRow_putObj (show W.ownsRow _ _ _ _ _ _ from hown) _ hl rfl) (by omega)
      have hkp : ∀ (o' : Obj) (X : World), Kept (KeepS S0 W1.heap.size) X (X.putObj (w.heap.size + 1) o') := fun o' X => Kept.put X _ _ (by
        rintro (h | h)
        · have := hS0 _ h; omega
        · omega)
      refine wpIn_mono (hbody _ k o b _ ho (hput _ _ _ _ hi (by omega)) (by omega) hown2) ?_
      have fin : ∀ (jump : Option Go.Code) (W3 : World), Kept (KeepS S0 w.heap.size) (W.putObj (w.heap.size + 1) (.loop { rec .ready none with state := .busy })) W3 →
          (Instr.endRound (w.heap.size + 1) jump).run Try.prog W3 = .ok (.bool jump.isNone) (W3.putObj (w.heap.size + 1) (.loop (rec (if jump.isNone then .ready else .done) jump))) ∧
          W3.heap[w.heap.size + 1]? = some (.loop { rec .ready none with state := .busy }) ∧
          (W3.putObj (w.heap.size + 1) (.loop (rec (if jump.isNone then .ready else .done) jump))).heap[w.heap.size + 1]? = some (.loop (rec (if jump.isNone then .ready else .done) jump)) ∧
          (W3.putObj (w.heap.size + 1) (.loop (rec (if jump.isNone then .ready else .done) jump))).heap[w.heap.size]? = some (.deferred (some [])) := fun jump W3 hk3 => by
        have hl3 := hk3.heap (k := w.heap.size + 1) (.inr (by omega)) hl2
        have := run_endRound (P := Try.prog) jump hl3
        rw [hrec] at this ⊢
        exact ⟨this, by rw [hrec] at hl3; exact hl3, World.putObj_heap_same (Array.getElem?_eq_some_iff.1 hl3).1, (World.putObj_heap_other (by omega)).trans (hk3.heap (k := w.heap.size) (.inr (Nat.le_refl _)) hk2)⟩
      have hkk : ∀ W3, Kept (KeepS S0 w.heap.size) (W.putObj (w.heap.size + 1) (.loop { rec .ready none with state := .busy })) W3 → Kept (KeepS S0 W1.heap.size) W W3 := fun W3 h3 =>
        (hkp _ _).trans (h3.mono (fun j _ hj => by
          rcases hj with h | h
          · exact .inl h
          · exact .inr (by omega)))
      rintro e a3 W3 hp
      cases e with
      | normal =>
        obtain ⟨hk3, hi3⟩ := hp
        obtain ⟨hr, hl3, hl4, hk4⟩ := fin none W3 hk3
        exact ⟨_, _, hr, .inl ⟨rfl, ⟨hput _ _ _ _ hi3 (by omega), hl4, hk4⟩, (hkk W3 hk3).trans (hkp _ _)⟩⟩
      | ret =>
        obtain ⟨hk3, hi3⟩ := hp
        obtain ⟨hr, hl3, hl4, hk4⟩ := fin (some .ret) W3 hk3
        exact ⟨_, _, hr, .inr ⟨rfl, ⟨hIx _ _ _ _ _ hi3 (by omega) hl3 rfl, hl4, hk4⟩, (hkk W3 hk3).trans (hkp _ _)⟩⟩
      | exit id => exact hp.elim
      | goto t => exact hp.elim
      | panic ch => exact hp.elim
      | outgrown => exact hp.elim
    · -- behind the iterator
      rintro e W2 ⟨⟨v, rfl⟩, (⟨hi, hl, hk⟩ | ⟨k, hkl, hi, hl, hk⟩)⟩
      · exact ⟨none, _, by have := run_endLoop (P := Try.prog) hl (by rw [hrec]; simp); rw [hrec] at this; exact this, hdone _ (hput _ _ _ _ hi (by omega)) ((World.putObj_heap_other (by omega)).trans hk)⟩
      · exact ⟨some .ret, _, by have := run_endLoop (P := Try.prog) hl (by rw [hrec]; simp); rw [hrec] at this; exact this, hstop k _ hkl (hIx _ _ _ _ _ hi (by omega) hl rfl) ((World.putObj_heap_other (by omega)).trans hk)⟩
end

section
/- Contract of slices.Clone at numbers. -/
open Go.RowKit
set_option linter.unusedVariables false

set_option maxRecDepth 100000 in
set_option maxHeartbeats 2000000 in
theorem iCloneZ_is (w : World) (A : Option Addr) (n c : Nat) (zs : List Int) (h : Zs w w.heap.size A n zs) (hn : n ≤ 1048576) :
    Calls Try.prog 108 #[.slice A n c] w (ZsRes zs w) := by
  obtain ⟨i0, hi0, hz0, hz1, hz2⟩ := info_parts info_int
  have hlen := h.len
  rcases A with _ | a
  · have hj : zs = [] := by
      rcases zs with _ | ⟨j, js⟩
      · rfl
      · obtain ⟨b, o, e, _⟩ := h.at_ 0 j rfl
        cases e
    subst hj
    clear h hlen
    have hnil := fun (w : World) => Lib.run_eql_slice_nil (P := Try.prog) w 25 3 none n c 0 0 Try.underlying25
    go_enter Try.func108, Try.ntmps108
    go_wp2
    go_ret
    exact ⟨none, 0, rfl, ⟨rfl, .inl ⟨rfl, rfl⟩⟩, Below.refl _ _⟩
  · have hcl : (zs.map (Value.int .i64)).length = n * 1 := by rw [List.length_map, hlen, Nat.mul_one]
    have hnews : ∀ j u, (zs.map (Value.int .i64))[j]? = some u → (w.alloc (.cells #[] 3)).cell? (a.add j) = some u := by
      intro j u hu
      rcases zs with _ | ⟨j0, js0⟩
      · simp at hu
      · obtain ⟨b, o, e, hb, _⟩ := h.at_ 0 j0 rfl
        injection e with e
        subst e
        exact Zs.cells (h.below (bl_alloc (Below.refl _ w) _)) j u hu
    have HN := Lib.hid hnews
    have HC := Lib.hid hcl
    have HL := Lib.hid hlen
    have hnil := fun (w : World) => Lib.run_eql_slice_nil (P := Try.prog) w 25 3 (some a) n c 0 0 Try.underlying25
    clear h hnews hcl hlen
    go_enter Try.func108, Try.ntmps108
    go_wp2_with (at_builtin; refine wpList_append_own _ rfl (.tmp 5) (.tmp 6) 25 rfl w.heap.size 3 i0 _ 1 8 Try.underlying25 hi0 hz0 hz1 hz2 rfl (by decide) (.slice (some ⟨w.heap.size, 0, none⟩) 0 0) 0 [] rfl (by exact OwnZ.empty w) a n c (zs.map (Value.int .i64)) rfl HC.out HN.out (zs_one _) (by unfold maxLen; omega) (by omega) (by simp) ?_; intro v2 w2 hown2 hgrow2 hiff2)
    have HO2 : Hid (OwnZ w2 w.heap.size v2 zs) := Lib.hid (by
      have hh := hown2
      rw [Nat.zero_add, List.nil_append, ← HL.out] at hh
      exact hh)
    have HB2 := Lib.hid ((bl_alloc (Below.refl w.heap.size w) (.cells #[] 3)).grown hgrow2 (by simp) (fun k e => by have e2 : some w.heap.size = some k := e; injection e2 with e2; omega))
    clear hown2 hgrow2 hiff2
    obtain ⟨A2, c2, rfl⟩ := HO2.out.form
    go_wp2
    go_ret
    exact ⟨A2, c2, rfl, HO2.out, HB2.out⟩

set_option maxRecDepth 100000 in
set_option maxHeartbeats 2000000 in
theorem iCloneZ_some (w : World) (a : Addr) (n c : Nat) (zs : List Int) (h : Zs w w.heap.size (some a) n zs) (hn : n ≤ 1048576) :
    Calls Try.prog 108 #[.slice (some a) n c] w fun e w' => ∃ g c2, e = .returned (.slice (some ⟨g, 0, none⟩) zs.length c2) ∧ OwnZ w' w.heap.size (.slice (some ⟨g, 0, none⟩) zs.length c2) zs ∧ Below w.heap.size w w' := by
  obtain ⟨i0, hi0, hz0, hz1, hz2⟩ := info_parts info_int
  have hlen := h.len
  have hcl : (zs.map (Value.int .i64)).length = n * 1 := by rw [List.length_map, hlen, Nat.mul_one]
  have hnews : ∀ j u, (zs.map (Value.int .i64))[j]? = some u → (w.alloc (.cells #[] 3)).cell? (a.add j) = some u := by
    intro j u hu
    rcases zs with _ | ⟨j0, js0⟩
    · simp at hu
    · obtain ⟨b, o, e, hb, _⟩ := h.at_ 0 j0 rfl
      injection e with e
      subst e
      exact Zs.cells (h.below (bl_alloc (Below.refl _ w) _)) j u hu
  have HN := Lib.hid hnews
  have HC := Lib.hid hcl
  have HL := Lib.hid hlen
  have hnil := fun (w : World) => Lib.run_eql_slice_nil (P := Try.prog) w 25 3 (some a) n c 0 0 Try.underlying25
  clear h hnews hcl hlen
  go_enter Try.func108, Try.ntmps108
  go_wp2_with (at_builtin; refine wpList_append_own _ rfl (.tmp 5) (.tmp 6) 25 rfl w.heap.size 3 i0 _ 1 8 Try.underlying25 hi0 hz0 hz1 hz2 rfl (by decide) (.slice (some ⟨w.heap.size, 0, none⟩) 0 0) 0 [] rfl (by exact OwnZ.empty w) a n c (zs.map (Value.int .i64)) rfl HC.out HN.out (zs_one _) (by unfold maxLen; omega) (by omega) (by simp) ?_; intro v2 w2 hown2 hgrow2 hiff2)
  have HO2 : Hid (OwnZ w2 w.heap.size v2 zs) := Lib.hid (by
    have hh := hown2
    rw [Nat.zero_add, List.nil_append, ← HL.out] at hh
    exact hh)
  have HB2 := Lib.hid ((bl_alloc (Below.refl w.heap.size w) (.cells #[] 3)).grown hgrow2 (by simp) (fun k e => by have e2 : some w.heap.size = some k := e; injection e2 with e2; omega))
  have hnn : ∃ g c2, v2 = .slice (some ⟨g, 0, none⟩) zs.length c2 := by
    rcases HO2.out.2 with ⟨e, h0⟩ | ⟨g, cap, cur, e, _⟩
    · have := (hiff2.1 e).1
      cases this
    · exact ⟨g, cap, e⟩
  clear hown2 hgrow2 hiff2
  obtain ⟨A2, c2, rfl⟩ := hnn
  go_wp2
  go_ret
  exact ⟨A2, c2, rfl, HO2.out, HB2.out⟩
end

section
/- Contract of the program's allFrom: a function value that hands over copies of numbers, one after another. -/
open Go.RowKit
set_option linter.unusedVariables false

theorem wpListIn_make_full {F : Fence} {n : Nat} {P : Program} (w : World) {ops : Array Oper} {rest : List Oper} {o : Oper} {a : Act} {Q : Exit → Act → World → Prop}
    (hg : o.guard = none) (l c : Operand) (t : TypeId) (hop : o.op = Op.makeSlice t l c)
    (base : Nat) (e : TypeId) (i : TypeInfo) (z : Value) (size : Nat) (h1 : P.underlying t = some (.slice e)) (h2 : P.info? e = some i) (h3 : i.zero = some z) (h4 : i.size = size)
    (kl kc : IntKind) (L C : Int) (m : Nat) (hl : a.eval l = .int kl L) (hc : a.eval c = .int kc C) (hL : L = (m : Int)) (hC : C = (m : Int)) (b2 : i.bytes * m ≤ 281474976710656) (b3 : m ≤ maxLen) (b4 : base ≤ w.heap.size)
    (hK : ∀ w', w'.ownsRow base e size (.slice (some ⟨w.heap.size, 0, none⟩) m m) m (madeCells z.cells (m * size)).toList → w.grownBy w' none → wpListIn F n P ops Q rest (a.put o.dst (.slice (some ⟨w.heap.size, 0, none⟩) m m)) w') :
    wpListIn F n P ops Q (o :: rest) a w := by
  refine wpListIn_plain hg fun K hK' => ?_
  obtain ⟨w', hrun, r1, r2⟩ := run_make_full (P := P) w base t e i z size h1 h2 h3 h4 kl kc m b2 b3 b4
  subst hL
  subst hC
  unfold Oper.wpIn
  refine ⟨?_, ?_⟩
  · simp [Oper.about, hop]
  · rw [Oper.semAt_plain F _ _ (by rw [hop]; intro c hc'; cases hc')]
    simp [execOp, hop, hl, hc, hrun, Result.andThen]
    exact hK' _ _ (hK w' r1 r2)
theorem wpListIn_copy_run {F : Fence} {n : Nat} {P : Program} (w : World) {ops : Array Oper} {rest : List Oper} {o : Oper} {a : Act} {Q : Exit → Act → World → Prop} (hgd : o.guard = none) (d s : Operand) (t t' : TypeId)
    (ho : o.op = .call { callee := .builtin .copy, args := #[d, s], argTypes := #[t, t'] }) (v u : Value) (hd : a.eval d = v) (hs : a.eval s = u) {v' : Value} {w' : World}
    (hr : (Builtin.copy_ #[t, t'] o.type #[v, u]).run P w = .ok v' w') (h : wpListIn F n P ops Q rest (a.put o.dst v') w') : wpListIn F n P ops Q (o :: rest) a w := by
  refine wpListIn_plain hgd fun K hK' => ?_
  unfold Oper.wpIn
  refine ⟨?_, ?_⟩
  · simp [Oper.about, ho, resolve, Target.leads, Sem.run_pure]
  · rw [Oper.semAt_plain F _ _ (by rw [ho]; intro c hc'; cases hc')]
    simp [execOp, ho, resolve, invoke, builtin, hd, hs, hr, Result.andThen]
    exact hK' _ _ h
theorem RoundIn.any {n m : Nat} {P : Program} {l : Nat} {f : FuncId} {tmps : Array Value} {assign body : Go.Code} {w : World} {R : Ending → World → Prop} (h : RoundIn Fence.wide n P l f tmps assign body w R) : RoundIn Fence.wide m P l f tmps assign body w R :=
  ⟨h.1, fun c cs _ => h.2 c cs (room_wide _)⟩

/-- A copy of numbers into numbers of the call's own. -/
theorem copied {w : World} {B g n : Nat} {ys zs : List Int} (h : OwnZ w B (vO n g) ys) (hz : zs.length = n) {A : Addr} {c : Nat} (hr : Zs w w.heap.size (some A) n zs) (hA : A.spot = none) (ty : TypeId) :
    ∃ w', (Builtin.copy_ #[25, 25] ty #[vO n g, .slice (some A) n c]).run Try.prog w = .ok (goInt n) w' ∧ OwnZ w' B (vO n g) zs ∧ w.grownBy w' (some g) := by
  obtain ⟨b, o, s⟩ := A
  dsimp only at hA
  subst hA
  rcases h.2 with ⟨e, h0⟩ | ⟨g', cap, cur, e, hb, hg, h1, h2, h3, h4⟩
  · cases e
  · injection e with e1 e2 e3
    injection e1 with e1
    injection e1 with e1
    subst e1 e3
    have hcur : cur.size = n := by rw [h3, Nat.mul_one]
    have hlen : (zs.map (Value.int .i64)).length = n := by rw [List.length_map, hz]
    have hrow : (cur.toList.take 0 ++ zs.map (Value.int .i64) ++ cur.toList.drop (0 + (zs.map (Value.int .i64)).length)).toArray = (zs.map (Value.int .i64)).toArray := by
      rw [List.take_zero, List.nil_append, List.drop_eq_nil_of_le (by rw [hlen, Array.length_toList]; omega), List.append_nil]
    have hrun := run_copy_k (P := Try.prog) w 25 25 ty 3 1 g 0 n n ⟨b, o, none⟩ n c n cur 3 (zs.map (Value.int .i64)) Try.underlying25 (by kernel_rfl) hg (by simp) (by rw [hlen, Nat.mul_one]) (Zs.cells hr) (by rw [hlen, hcur]; omega) (zs_one _)
    rw [hrow] at hrun
    refine ⟨_, hrun, ?_, gb_setRow w g _⟩
    refine ⟨by rw [hlen, hz, Nat.mul_one], .inr ⟨g, n, _, by rw [hz]; rfl, hb, setRow_heap w g cur _ 3 _ hg, by rw [hz]; exact Nat.le_refl _, h2, by rw [List.size_toArray, hlen, Nat.mul_one], ?_⟩⟩
    rw [List.take_of_length_le (by rw [hlen, hz, Nat.mul_one]; exact Nat.le_refl _)]

theorem OwnZ.readV {w : World} {B g n : Nat} {zs : List Int} (h : OwnZ w B (vO n g) zs) (hl : zs.length = n) : Zs w w.heap.size (some ⟨g, 0, none⟩) n zs := by
  subst hl
  exact OwnZ.reads (c := zs.length) h
theorem OwnZ.same {w w' : World} {B g n : Nat} {zs : List Int} (h : OwnZ w B (vO n g) zs) (hk : w'.heap[g]? = w.heap[g]?) : OwnZ w' B (vO n g) zs := by
  refine ⟨h.1, ?_⟩
  rcases h.2 with ⟨e, h0⟩ | ⟨g', cap, cur, e, h1, hg, h3⟩
  · cases e
  · injection e with e1 e2 e3
    injection e1 with e1
    injection e1 with e1
    subst e1
    exact .inr ⟨g, cap, cur, by rw [← e3, ← e2]; rfl, h1, hk.trans hg, h3⟩
theorem OwnZ.readsV2 {w : World} {B g n c : Nat} {zs : List Int} (h : OwnZ w B (.slice (some ⟨g, 0, none⟩) n c) zs) (hl : zs.length = n) : Zs w w.heap.size (some ⟨g, 0, none⟩) n zs := by
  subst hl
  exact OwnZ.reads h
theorem OwnZ.same2 {w w' : World} {B g n c : Nat} {zs : List Int} (h : OwnZ w B (.slice (some ⟨g, 0, none⟩) n c) zs) (hk : w'.heap[g]? = w.heap[g]?) : OwnZ w' B (.slice (some ⟨g, 0, none⟩) n c) zs := by
  refine ⟨h.1, ?_⟩
  rcases h.2 with ⟨e, h0⟩ | ⟨g', cap, cur, e, h1, hg, h3⟩
  · cases e
  · injection e with e1 e2 e3
    injection e1 with e1
    injection e1 with e1
    subst e1
    exact .inr ⟨g, cap, cur, by rw [← e3, ← e2], h1, hk.trans hg, h3⟩
/-- What is asked of the function that makes the next numbers of some. -/
def NextFn (gf : Nat) (lb : Array Value) (n : Nat) (os : List (List Nat)) (S : Nat → Prop) (W : World) : Prop :=
  ∀ (k : Nat) (o : List Nat) (X : World) (B g c : Nat), os[k]? = some o → (∀ j, S j → X.heap[j]? = W.heap[j]?) → W.heap.size ≤ B → OwnZ X B (.slice (some ⟨g, 0, none⟩) n c) (toZ o) →
    Calls Try.prog gf (#[.slice (some ⟨g, 0, none⟩) n c] ++ lb) X (NextRes B g n c (toZ o) ((os[k + 1]?).map toZ) X)

/-- What holds between two rounds, when so many are still to come. -/
def AllR (J : Nat → World → Prop) (S : Nat → Prop) (W : World) (n g c : Nat) (os : List (List Nat)) (d : Nat) (m : Value) (wr : World) : Prop :=
  ∃ (k : Nat) (mb : Bool) (zs : List Int), d = os.length - k ∧ m = .bool mb ∧ zs.length = n ∧ (mb = true → ∃ o, os[k]? = some o ∧ zs = toZ o) ∧ (mb = false → k = os.length) ∧ J k wr ∧ OwnZ wr W.heap.size (.slice (some ⟨g, 0, none⟩) n c) zs ∧ (∀ j, S j → wr.heap[j]? = W.heap[j]?)

attribute [local go_sem] Oper.semAt_some

set_option maxRecDepth 100000 in
set_option maxHeartbeats 4000000 in
theorem from_seq (n b1 b2 gf c1 : Nat) (lb : Array Value) (a1 : Addr) (os : List (List Nat)) (o0 : List Nat) (S : Nat → Prop) (hn : n ≤ 5) (hlen : ∀ (k : Nat) (o : List Nat), os[k]? = some o → o.length = n) (hst : os[0]? = some o0) (W : World)
    (hc1 : W.cell? ⟨b1, 0, none⟩ = some (.slice (some a1) n c1)) (hZ : Zs W W.heap.size (some a1) n (toZ o0)) (hc2 : W.cell? ⟨b2, 0, none⟩ = some (.func (.func gf) #[] lb))
    (ek : ∀ args w, (callFunc gf args).run Try.prog w = .ok (.enter gf args) w) (hS : ∀ j, S j → j < W.heap.size) (hSb : S b2) (hnx : NextFn gf lb n os S W) :
    OrdSeq 107 #[.pointer (some ⟨b1, 0, none⟩), .pointer (some ⟨b2, 0, none⟩)] n os S W := by
  intro l J Jx hJ hJx hY h0
  obtain ⟨i0, hi, hz0, hz1, hz2⟩ := info_parts info_int
  have hbp : b2 < W.heap.size := World.block_lt_of_cell? W _ hc2
  refine (callsIn_wide (n := 1)).1 ?_
  refine callsIn_of_wp Try.func107 rfl trivial ?_ rfl
  simp only [Try.ntmps107, List.size_toArray, List.length_cons, List.length_nil, Nat.reduceAdd, Nat.reduceSub, Array.replicate_succ, Array.replicate_zero, List.push_toArray, List.append_toArray, List.nil_append, List.cons_append]
  have HPE := Lib.hid hlen
  have HST := Lib.hid hst
  have HY := Lib.hid hY
  have HJ := Lib.hid hJ
  have HZ0 := Lib.hid hZ
  have HNX := Lib.hid hnx
  have HS0 := Lib.hid hS
  have HC2 := Lib.hid hc2
  clear hY hJ hJx hlen hst hZ hnx hS hc2
  gi_wp2_with (refine ⟨trivial, ?_⟩; gi_at_call 108; refine (callsIn_wide.2 (iCloneZ_some _ a1 n c1 _ HZ0.out (by omega))).mono ?_; rintro e w2 ⟨g, c, rfl, ho, hb⟩; have HO := Lib.hid ho; have HB := Lib.hid hb; clear ho hb)
  have hol0 : o0.length = n := HPE.out 0 o0 HST.out
  simp only [toZ_len, hol0]
  have HJ0 : Hid (J 0 w2) := HJ.out 0 W w2 h0 HB.out
  have HSB : Hid (S b2) := hSb
  clear hc1 h0 hSb
  gi_loopw [5] (fun m wr => ∃ d, AllR J S W n g c os d m wr) (fun m wr => leastOf (fun d => AllR J S W n g c os d m wr))
  case atStart => exact ⟨_, 0, true, toZ o0, rfl, rfl, by rw [toZ_len, hol0], (fun _ => ⟨_, HST.out, rfl⟩), (fun h => by cases h), HJ0.out, by have := HO.out; rw [toZ_len, hol0] at this; exact this, fun j hj => HB.out.block j (HS0.out j hj)⟩
  case round =>
    obtain ⟨k, mb, zs, hd, rfl, hzl, hmt, hmf, hj, ho, hcp⟩ := (leastOf_spec hrel).1
    have HJk := Lib.hid hj
    have HOk := Lib.hid ho
    have HD := Lib.hid hd
    have HZL := Lib.hid hzl
    have HCP := Lib.hid hcp
    clear hj ho hd hzl hrel hcp
    cases mb with
    | false =>
      obtain rfl := hmf rfl
      gi_wp2
      go_end0
      exact ⟨⟨_, rfl⟩, .inl HJk.out⟩
    | true =>
      obtain ⟨o, hok, rfl⟩ := hmt rfl
      have HOK := Lib.hid hok
      have hkl : k < os.length := (List.getElem?_eq_some_iff.1 hok).1
      have HKL := Lib.hid hkl
      have HOL := Lib.hid (HPE.out k o hok)
      clear hmt hmf hok hkl
      have hgs := (show OwnZ wr W.heap.size (.slice (some ⟨g, 0, none⟩) n c) _ from HOk.out).lt
      have hszB : W.heap.size ≤ wr.heap.size := Nat.le_trans hgs.1 (Nat.le_of_lt hgs.2)
      gi_wp2_with (first
        | (gi_at_make; refine wpListIn_make_full _ rfl _ _ 25 rfl wr.heap.size 3 i0 _ 1 Try.underlying25 hi hz0 hz1 .i64 .i64 _ _ n rfl rfl rfl rfl (by rw [hz2]; omega) (by unfold maxLen; omega) (Nat.le_refl _) ?_; intro w3 hown0 hgrow0; have HO3 : Hid (OwnZ w3 wr.heap.size (vO n wr.heap.size) (List.replicate n 0)) := (show w3.ownsRow _ _ _ _ _ _ from by rw [← made_int, List.length_replicate]; exact hown0); have HB3 := Lib.hid ((Below.refl _ wr).grown hgrow0 (Nat.le_refl _) (fun k e => by cases e)); clear hown0 hgrow0)
        | (have uu := HO3; clear uu; obtain ⟨w4, hrun, ho4, hg4⟩ := copied HO3.out HZL.out (A := ⟨g, 0, none⟩) (c := c) ((HOk.out.below HB3.out).readsV2 HZL.out) rfl 3; refine wpListIn_copy_run _ rfl _ _ _ _ rfl _ _ rfl rfl hrun ?_; have HO4 := Lib.hid ho4; have HC4 := Lib.hid (show Below wr.heap.size wr w4 from HB3.out.grown hg4 HB3.out.size (fun x e => by cases e; exact Nat.le_refl _)); have HB4 := Lib.hid (HC4.out.mono hszB); obtain ⟨fn, tm, asg', bd, hy, hR⟩ := HY.out k o wr.heap.size w4 HOK.out (HJ.out k wr w4 HJk.out HB4.out) hszB (HO4.out.less hszB); simp only [vO] at hy; have HRR := Lib.hid hR; clear hrun ho4 hg4 hR))
      refine (RoundIn.any HRR.out).mono ?_
      rintro e W3 (⟨rfl, hj3, hk3⟩ | ⟨rfl, hx3, hk3⟩)
      · have HJ3 := Lib.hid hj3
        have hbw : g < w4.heap.size := Nat.lt_of_lt_of_le hgs.2 HC4.out.size
        have HO5 : Hid (OwnZ W3 W.heap.size (.slice (some ⟨g, 0, none⟩) n c) (toZ o)) := (HOk.out.below HC4.out).same2 (hk3.block _ (.inr hgs.1) hbw)
        have HS5 : Hid (∀ j, S j → W3.heap[j]? = W.heap[j]?) := fun j hj => (hk3.block j (.inl hj) (by have := HS0.out j hj; omega)).trans ((HB4.out.block j (HS0.out j hj)).trans (HCP.out j hj))
        have hs3 : W.heap.size ≤ W3.heap.size := Nat.le_trans hszB (Nat.le_trans HC4.out.size hk3.size)
        have hc5 : W3.cell? ⟨b2, 0, none⟩ = some (.func (.func gf) #[] lb) := (World.cell?_of_block (HS5.out b2 HSB.out)).trans HC2.out
        have HR5 := Lib.hid (HNX.out k o W3 W.heap.size g c HOK.out HS5.out (Nat.le_refl _) HO5.out)
        clear hj3 hk3
        gi_wp2_with (refine ⟨trivial, ?_⟩; gi_at_fn gf; refine (callsIn_wide.2 HR5.out).mono ?_; rintro e w6 ⟨rfl, ho6, hg6⟩; have HO6 := Lib.hid ho6; have HG6 := Lib.hid hg6; clear ho6 hg6)
        have hnew : AllR J S W n g c os (os.length - (k + 1)) (.bool (os[k + 1]?).isSome) w6 := by
          refine ⟨k + 1, _, ((os[k + 1]?).map toZ).getD (toZ o), rfl, rfl, ?_, ?_, ?_, HJ.out (k + 1) W3 w6 HJ3.out ((Below.refl _ W3).grown HG6.out hs3 (fun x e => by cases e; exact hgs.1)), HO6.out, ?_⟩
          · cases hx : os[k + 1]? with
            | none => exact HZL.out
            | some o' => show (toZ o').length = n; rw [toZ_len]; exact HPE.out _ o' hx
          · intro h
            cases hx : os[k + 1]? with
            | none => rw [hx] at h; cases h
            | some o' => exact ⟨o', rfl, rfl⟩
          · intro h
            have := HKL.out
            rcases Nat.lt_or_ge (k + 1) os.length with h1 | h1
            · rw [List.getElem?_eq_getElem h1] at h; cases h
            · omega
          · intro j hj
            have := HS0.out j hj
            exact (HG6.out.block j (by omega) (fun e => by have := Option.some.inj e; have := hgs.1; omega)).trans (HS5.out j hj)
        go_roundw
        case rel => exact ⟨_, hnew⟩
        case measure =>
          refine Nat.lt_of_le_of_lt ((leastOf_spec ⟨_, hnew⟩).2 _ hnew) ?_
          have h1 := HD.out
          have h2 := HKL.out
          show _ < leastOf _
          omega
      · have HX3 := Lib.hid hx3
        have HKL2 := Lib.hid HKL.out
        clear hx3 hk3
        gi_wp2
        refine bodyPost_ret (results_none rfl _ _ _) rfl ?_
        exact ⟨⟨_, rfl⟩, .inr ⟨k, HKL2.out, HX3.out⟩⟩

/-- The orders, one after another. -/
theorem next_fn (n : Nat) (hn : n ≤ 5) (S : Nat → Prop) (W : World) : NextFn 101 #[] n (allOf n) S W := by
  intro k o X B g c ho _ _ hown
  refine (iNext_is X B g n c (toZ o) hown ?_ hn _ (next_of hn ho))
  have := (all_perm hn (List.mem_of_getElem? ho)).length_eq
  rw [toZ_len]
  simpa using this
theorem allO_seq (n b1 b2 c1 : Nat) (a1 : Addr) (hn : n ≤ 5) (W : World) (hc1 : W.cell? ⟨b1, 0, none⟩ = some (.slice (some a1) n c1)) (hZ : Zs W W.heap.size (some a1) n (toZ (List.range n)))
    (hc2 : W.cell? ⟨b2, 0, none⟩ = some (.func (.func 101) #[] #[])) :
    OrdSeq 107 #[.pointer (some ⟨b1, 0, none⟩), .pointer (some ⟨b2, 0, none⟩)] n (allOf n) (fun k => k = b2) W := by
  obtain ⟨r, hr⟩ := all_head hn
  refine from_seq n b1 b2 _ c1 #[] a1 (allOf n) (List.range n) _ hn (fun k o h => ?_) (by rw [hr]; rfl) W hc1 hZ hc2 (enters_of Try.func101 (by kernel_rfl) rfl) (fun j e => by rw [e]; exact World.block_lt_of_cell? W _ hc2) rfl (next_fn n hn _ W)
  have := (all_perm hn (List.mem_of_getElem? h)).length_eq
  simpa using this
end

section
/- Contract of the program's holdingOrders: a function value that hands over the orders in which all tasks hold. -/
open Go.RowKit
set_option linter.unusedVariables false

def holdL (ts : List Tk) (o : List Nat) : Bool := hBoth (putN ts o)
def hosOf (ts : List Tk) (n : Nat) : List (List Nat) := if setB ts then (allOf n).filter (holdL ts) else []
def cntK (ts : List Tk) (n k : Nat) : Nat := (((allOf n).take k).filter (holdL ts)).length
theorem cntK_zero (ts : List Tk) (n : Nat) : cntK ts n 0 = 0 := rfl
theorem cntK_yes {ts : List Tk} {n k : Nat} {o : List Nat} (h : (allOf n)[k]? = some o) (hh : holdL ts o = true) : cntK ts n (k + 1) = cntK ts n k + 1 := by
  unfold cntK
  rw [List.take_add_one, h, List.filter_append, List.length_append]
  simp [hh]
theorem cntK_no {ts : List Tk} {n k : Nat} {o : List Nat} (h : (allOf n)[k]? = some o) (hh : holdL ts o = false) : cntK ts n (k + 1) = cntK ts n k := by
  unfold cntK
  rw [List.take_add_one, h, List.filter_append, List.length_append]
  simp [hh]
theorem cntK_all {ts : List Tk} {n : Nat} (hs : setB ts = true) : cntK ts n (allOf n).length = (hosOf ts n).length := by
  unfold cntK hosOf
  rw [List.take_length, if_pos hs]
theorem hos_at {ts : List Tk} {n k : Nat} {o : List Nat} (hs : setB ts = true) (h : (allOf n)[k]? = some o) (hh : holdL ts o = true) : (hosOf ts n)[cntK ts n k]? = some o := by
  unfold cntK hosOf
  rw [if_pos hs]
  obtain ⟨hk1, hk2⟩ := List.getElem?_eq_some_iff.1 h
  have e : (allOf n).filter (holdL ts) = ((allOf n).take k).filter (holdL ts) ++ ((allOf n).drop k).filter (holdL ts) := by
    rw [← List.filter_append, List.take_append_drop]
  rw [e, List.getElem?_append_right (Nat.le_refl _), Nat.sub_self]
  rw [List.drop_eq_getElem_cons hk1, hk2, List.filter_cons, if_pos hh]
  rfl
theorem hos_bad {ts : List Tk} (n : Nat) (hs : setB ts = false) : (hosOf ts n).length = 0 := by unfold hosOf; rw [hs]; rfl
theorem Kept.below {S : Nat → Prop} {X Y Z : World} (h : Kept S X Y) (hb : Below X.heap.size Y Z) : Kept S X Z :=
  ⟨hb.os.trans h.os, hb.tape.trans h.tape, hb.output.trans h.output, Nat.le_trans h.size hb.size, fun k hk hl => (hb.block k hl).trans (h.block k hk hl)⟩
theorem Kept.to_below {S : Nat → Prop} {X Y : World} {B : Nat} (h : Kept S X Y) (hB : B ≤ X.heap.size) (hS : ∀ k, k < B → S k) : Below B X Y :=
  ⟨h.os, h.tape, h.output, h.size, fun k hk => h.block k (hS k hk) (by omega)⟩
theorem RoundIn.inRound_ {n m l2 : Nat} {P : Program} {l : Nat} {f : FuncId} {tmps : Array Value} {assign body : Go.Code} {w : World} {R : Ending → World → Prop} (h : RoundIn Fence.wide n P l f tmps assign body w R) : RoundIn (Fence.wide.inRound l2) m P l f tmps assign body w R :=
  RoundIn.any (m := m) h

set_option maxHeartbeats 1000000 in
theorem iAllFrom_is (w : World) (A : Option Addr) (n c gf : Nat) (lb : Array Value) : Calls Try.prog 100 #[.slice A n c, .func (.func gf) #[] lb] w fun e w' => e = .returned (.func (.func 107) #[] #[.pointer (some ⟨w.heap.size, 0, none⟩), .pointer (some ⟨w.heap.size + 1, 0, none⟩)]) ∧ w' = (w.alloc (.cells #[.slice A n c] 25)).alloc (.cells #[.func (.func gf) #[] lb] 82) := by
  go_enter Try.func100, Try.ntmps100
  go_wp2
  go_ret
  exact ⟨by simp, rfl⟩
set_option maxHeartbeats 1000000 in
theorem iAllO_is (w : World) (n : Nat) (hn : n ≤ 5) : Calls Try.prog 86 #[.int .i64 (n : Int)] w fun e w' => ∃ b1, e = .returned (.func (.func 107) #[] #[.pointer (some ⟨b1, 0, none⟩), .pointer (some ⟨b1 + 1, 0, none⟩)]) ∧
    w.heap.size ≤ b1 ∧ w'.heap.size = b1 + 2 ∧ w'.cell? ⟨b1, 0, none⟩ = some (.slice (some ⟨w.heap.size, 0, none⟩) n n) ∧ Zs w' w'.heap.size (some ⟨w.heap.size, 0, none⟩) n (toZ (List.range n)) ∧
    w'.cell? ⟨b1 + 1, 0, none⟩ = some (.func (.func 101) #[] #[]) ∧ Below w.heap.size w w' := by
  go_enter Try.func86, Try.ntmps86
  go_wp2_with fail
  refine (iFirst_is _ n hn).mono ?_
  rintro e w2 ⟨rfl, ho, hb⟩
  have HO := Lib.hid ho
  have HB := Lib.hid hb
  clear ho hb
  go_wp2_with fail
  refine (iAllFrom_is _ _ n n _ _).mono ?_
  rintro e w3 ⟨rfl, hw⟩
  have HW := Lib.hid hw
  clear hw
  go_wp2
  go_ret
  have h3 : Below w2.heap.size w2 w3 := by rw [HW.out]; exact bl_alloc (bl_alloc (Below.refl _ _) _) _
  have hs3 : w3.heap.size = w2.heap.size + 2 := by rw [HW.out]; simp
  have c1 : w3.cell? ⟨w2.heap.size, 0, none⟩ = some (.slice (some ⟨w.heap.size, 0, none⟩) n n) := by
    rw [HW.out, World.cell?_alloc_lt _ _ _ (by simp), cell_of_row _ w2.heap.size 0 _ _ _ (heap_alloc_new w2 _)]; rfl
  have c2 : w3.cell? ⟨w2.heap.size + 1, 0, none⟩ = some (.func (.func 101) #[] #[]) := by
    rw [HW.out, cell_of_row _ (w2.heap.size + 1) 0 _ _ _ (by have := heap_alloc_new (w2.alloc (.cells #[.slice (some ⟨w.heap.size, 0, none⟩) n n] 25)) (.cells #[.func (.func 101) #[] #[]] 82); rw [World.size_alloc] at this; exact this)]; rfl
  exact ⟨w2.heap.size, rfl, HB.out.size, hs3, c1, ((HO.out.readsV2 (by simp [toZ_len])).below h3).more h3.size, c2, HB.out.trans (h3.mono HB.out.size)⟩
set_option maxHeartbeats 1000000 in
theorem iHoldO_is (w : World) (A : Option Addr) (n c : Nat) : Calls Try.prog 60 #[.slice A n c] w fun e w' => e = .returned (.func (.func 85) #[] #[.pointer (some ⟨w.heap.size, 0, none⟩)]) ∧ w' = w.alloc (.cells #[.slice A n c] 23) := by
  go_enter Try.func60, Try.ntmps60
  go_wp2
  go_ret
  exact ⟨rfl, rfl⟩

attribute [local go_sem] Oper.semAt_some

set_option maxRecDepth 100000 in
set_option maxHeartbeats 4000000 in
theorem holdO_seq (n n₀ bx c : Nat) (A : Option Addr) (ts : List Tk) (W : World) (hT : Tks W n₀ A n ts) (hn : n ≤ 1048576) (hn0 : n₀ ≤ W.heap.size) (hc : W.cell? ⟨bx, 0, none⟩ = some (.slice A n c)) :
    OrdSeq 85 #[.pointer (some ⟨bx, 0, none⟩)] n (hosOf ts n) (fun k => k < n₀ ∨ k = bx) W := by
  intro l J Jx hJ hJx hY h0
  have hbx : bx < W.heap.size := World.block_lt_of_cell? W _ hc
  have HT := Lib.hid hT
  have HL := Lib.hid hT.len
  have HJ := Lib.hid hJ
  have HJX := Lib.hid hJx
  have HY := Lib.hid hY
  have HJ0 := Lib.hid h0
  clear hT hJ hJx hY h0
  have hcx : (W.alloc (.cells #[.func (.yield l) #[] #[]] 82)).cell? ⟨bx, 0, none⟩ = some (.slice A n c) := (World.cell?_alloc_lt W _ _ hbx).trans hc
  have HTA : Hid (Tks (W.alloc (.cells #[.func (.yield l) #[] #[]] 82)) (W.alloc (.cells #[.func (.yield l) #[] #[]] 82)).heap.size A n ts) := (HT.out.below (((Below.refl _ W).alloc (Nat.le_refl _) _).mono hn0)).more (by simp; omega)
  refine (callsIn_wide (n := 1)).1 ?_
  refine callsIn_of_wp_marks Try.func85 rfl trivial ?_ rfl
  simp only [Try.ntmps85, List.size_toArray, List.length_cons, List.length_nil, Nat.reduceAdd, Nat.reduceSub, Array.replicate_succ, Array.replicate_zero, List.push_toArray, List.append_toArray, List.nil_append, List.cons_append]
  cases hs : setB ts with
  | false =>
    have HS := Lib.hid hs
    clear hs
    gi_wp2_with (refine ⟨trivial, ?_⟩; gi_at_call 30; refine (callsIn_wide.2 (iSetValid_any _ A n c ts HTA.out hn)).mono ?_; rintro e w1 ⟨rfl, hb⟩; rw [HS.out]; have HB := Lib.hid hb; clear hb)
    exact ⟨_, results_none rfl _ _ _, ⟨_, rfl⟩, .inl (by rw [hos_bad n HS.out]; exact HJ.out 0 W w1 HJ0.out (((Below.refl _ W).alloc (Nat.le_refl _) _).trans (HB.out.mono (by simp))))⟩
  | true =>
    have HS := Lib.hid hs
    clear hs
    have h5 : n ≤ 5 := by have := setB_len HS.out; rw [HL.out] at this; exact this
    gi_wp2_with (first
      | (refine ⟨trivial, ?_⟩; gi_at_call 30; refine (callsIn_wide.2 (iSetValid_any _ A n c ts HTA.out hn)).mono ?_; rintro e w1 ⟨rfl, hb⟩; rw [HS.out]; have HB := Lib.hid hb; have hc1 : w1.cell? ⟨bx, 0, none⟩ = some (.slice A n c) := (hb.cell (p := ⟨bx, 0, none⟩) (by simp; omega)).trans hcx; clear hb)
      | (refine ⟨trivial, ?_⟩; gi_at_call 86; refine (callsIn_wide.2 (iAllO_is _ n h5)).mono ?_; rintro e w2 ⟨b1, rfl, hb1, hs2, hq1, hq2, hq3, hbw2⟩; have HQ1 := Lib.hid hq1; have HQ2 := Lib.hid hq2; have HQ3 := Lib.hid hq3; have HBW2 := Lib.hid hbw2; clear hq1 hq2 hq3 hbw2))
    have hs1 : W.heap.size + 1 ≤ w1.heap.size := by have := HB.out.size; simpa using this
    have HBW : Hid (Below W.heap.size W w2) := by
      show Below _ _ _
      exact (((Below.refl _ W).alloc (Nat.le_refl _) _).trans (HB.out.mono (by simp))).trans (HBW2.out.mono (by omega))
    have hcb : w2.cell? ⟨bx, 0, none⟩ = some (.slice A n c) := (HBW.out.cell (p := ⟨bx, 0, none⟩) hbx).trans hc
    have hcy : w2.cell? ⟨W.heap.size, 0, none⟩ = some (.func (.yield l) #[] #[]) := by
      refine (HBW2.out.cell (p := ⟨W.heap.size, 0, none⟩) (by show W.heap.size < _; omega)).trans ?_
      refine (HB.out.cell (p := ⟨W.heap.size, 0, none⟩) (by simp)).trans ?_
      rw [cell_of_row _ W.heap.size 0 _ _ _ (heap_alloc_new W _)]; rfl
    have HCB := Lib.hid hcb
    have HCY := Lib.hid hcy
    clear hcb hcy hc1
    obtain ⟨S, hS⟩ : ∃ S : Nat → Prop, S = fun k => k < n₀ ∨ k = bx ∨ k = W.heap.size := ⟨_, rfl⟩
    refine wpIn_rangeOrd (gf := 107) (lb := #[.pointer (some ⟨b1, 0, none⟩), .pointer (some ⟨b1 + 1, 0, none⟩)]) (m := n) (os := allOf n) (S0 := fun k => k = b1 + 1) rfl
      (enters_of Try.func107 (by kernel_rfl) rfl) (fun k e => by rw [e]; omega)
      (fun W1 hb => allO_seq n b1 (b1 + 1) n ⟨w1.heap.size, 0, none⟩ h5 W1 ((hb.cell (p := ⟨b1, 0, none⟩) (by show b1 < _; omega)).trans HQ1.out) ((HQ2.out.below hb).more hb.size) ((hb.cell (p := ⟨b1 + 1, 0, none⟩) (by show b1 + 1 < _; omega)).trans HQ3.out))
      (fun k X => J (cntK ts n k) X ∧ Kept S w2 X) (fun k X => ∃ k', k' < (hosOf ts n).length ∧ Jx k' X)
      (fun k X Y hx hb => ⟨HJ.out _ X Y hx.1 (hb.mono (by omega)), hx.2.below hb⟩)
      (fun k X r o o' hx hr ho hcl => by obtain ⟨k', h1, h2⟩ := hx; exact ⟨k', h1, HJX.out k' X r o o' h2 (by omega) ho hcl⟩)
      ⟨HJ.out _ W w2 HJ0.out HBW.out, Kept.refl _ _⟩
      (fun b => { tmps := #[.func (.yield l) #[] #[], .pointer (some ⟨bx, 0, none⟩), .pointer (some ⟨W.heap.size, 0, none⟩), vO n b, .slice A n c, .bool true, .bool false, .slice A n c, .int .i64 (n : Int), .func (.func 107) #[] #[.pointer (some ⟨b1, 0, none⟩), .pointer (some ⟨b1 + 1, 0, none⟩)], vO n b, undef, undef, undef, undef, undef, undef, undef, undef, undef, undef], defers := [] }) ?assign ?body ?done ?stop
    case assign =>
      intro l2 b X K hK
      gi_wp2
      exact hK
    case body =>
      rintro l2 k o b X hok ⟨hj, hkp⟩ hb hown
      have hol : o.length = n := by have := (all_perm h5 (List.mem_of_getElem? hok)).length_eq; simpa using this
      have HTX : Hid (Tks X X.heap.size A n ts) := (HT.out.below ((HBW.out.mono hn0).trans (hkp.to_below (by omega) (fun j hj => by rw [hS]; exact .inl hj)))).more (by have := hkp.size; omega)
      have HZX : Hid (Zs X X.heap.size (some ⟨b, 0, none⟩) n (toZ o)) := hown.readV (by rw [toZ_len]; exact hol)
      have HIX : Hid (InL ts o) := fun i hi => by rw [HL.out]; exact List.mem_range.1 ((all_perm h5 (List.mem_of_getElem? hok)).mem_iff.1 hi)
      have hcx2 : X.cell? ⟨bx, 0, none⟩ = some (.slice A n c) := (World.cell?_of_block (hkp.block bx (by rw [hS]; exact .inr (.inl rfl)) (by omega))).trans HCB.out
      have hcy2 : X.cell? ⟨W.heap.size, 0, none⟩ = some (.func (.yield l) #[] #[]) := (World.cell?_of_block (hkp.block W.heap.size (by rw [hS]; exact .inr (.inr rfl)) (by omega))).trans HCY.out
      have HKP := Lib.hid hkp
      have HJX2 := Lib.hid hj
      have HOK := Lib.hid hok
      have HOW := Lib.hid hown
      have HOL := Lib.hid hol
      have HCY2 := Lib.hid hcy2
      have hwx : w2.heap.size ≤ X.heap.size := hkp.size
      clear hkp hj hok hown hol hcy2
      simp only [vO]
      cases hq : holdL ts o with
      | false =>
        have HQ : Hid (hBoth (putN ts o) = false) := hq
        have HN := Lib.hid (cntK_no HOK.out hq)
        clear hq
        gi_wp2_with (first
          | (refine ⟨trivial, ?_⟩; gi_at_call 55; refine (CallsIn.inRound l2 (callsIn_wide.2 (iTasksAt_is X A n c ts (some ⟨b, 0, none⟩) n n o HTX.out HZX.out HIX.out (by rw [HOL.out]; omega)))).mono ?_; rintro e w3 ⟨A3, c3, rfl, ho3, hb3⟩; have HO3 := Lib.hid ho3; have HB3 := Lib.hid hb3; clear ho3 hb3)
          | (refine ⟨trivial, ?_⟩; gi_at_call 24; refine (CallsIn.inRound l2 (callsIn_wide.2 (iHBoth_is w3 A3 _ c3 (putN ts o) HO3.out.reads.2 (by rw [put_len, HOL.out]; omega) (own_le HO3.out) false HQ.out))).mono ?_; rintro e w4 ⟨rfl, hb4⟩; have HB4 := Lib.hid (bl_trans HB3.out hb4); clear hb4))
        refine ⟨fun _ h => (by cases h), ?_⟩
        gi_wp2
        refine ⟨Kept.of_below HB4.out, ?_, HKP.out.below (HB4.out.mono hwx)⟩
        rw [HN.out]
        exact HJ.out _ X w4 HJX2.out (HB4.out.mono (by omega))
      | true =>
        have HQ : Hid (hBoth (putN ts o) = true) := hq
        have HN := Lib.hid (cntK_yes HOK.out hq)
        have HA := Lib.hid (hos_at HS.out HOK.out hq)
        clear hq
        gi_wp2_with (first
          | (refine ⟨trivial, ?_⟩; gi_at_call 55; refine (CallsIn.inRound l2 (callsIn_wide.2 (iTasksAt_is X A n c ts (some ⟨b, 0, none⟩) n n o HTX.out HZX.out HIX.out (by rw [HOL.out]; omega)))).mono ?_; rintro e w3 ⟨A3, c3, rfl, ho3, hb3⟩; have HO3 := Lib.hid ho3; have HB3 := Lib.hid hb3; clear ho3 hb3)
          | (refine ⟨trivial, ?_⟩; gi_at_call 24; refine (CallsIn.inRound l2 (callsIn_wide.2 (iHBoth_is w3 A3 _ c3 (putN ts o) HO3.out.reads.2 (by rw [put_len, HOL.out]; omega) (own_le HO3.out) true HQ.out))).mono ?_; rintro e w4 ⟨rfl, hb4⟩; have HB4 := Lib.hid (bl_trans HB3.out hb4); have hcy4 : w4.cell? ⟨W.heap.size, 0, none⟩ = some (.func (.yield l) #[] #[]) := (HB4.out.cell (p := ⟨W.heap.size, 0, none⟩) (by show W.heap.size < _; omega)).trans HCY2.out; obtain ⟨fn, tm, asg', bd, hy, hR⟩ := HY.out (cntK ts n k) o b w4 HA.out (HJ.out _ X w4 HJX2.out (HB4.out.mono (by omega))) (by omega) ((HOW.out.less (by omega)).below HB4.out); simp only [vO] at hy; have HRR := Lib.hid hR; clear hb4 hR))
        refine (RoundIn.inRound_ HRR.out).mono ?_
        rintro e W5 (⟨rfl, hj5, hk5⟩ | ⟨rfl, hx5, hk5⟩)
        · have HJ5 := Lib.hid hj5
          have HK5 := Lib.hid hk5
          clear hj5 hk5
          gi_wp2
          refine ⟨(Kept.of_below HB4.out).trans (HK5.out.mono (fun j hl hj => ?_)), by rw [HN.out]; exact HJ5.out, (HKP.out.below (HB4.out.mono hwx)).trans (HK5.out.mono (fun j hl hj => ?_))⟩
          · rcases hj with h | h
            · exact .inr (by omega)
            · exact .inr (by omega)
          · rw [hS] at hj
            rcases hj with h | h | h
            · exact .inl (.inl h)
            · exact .inl (.inr h)
            · exact .inr (by omega)
        · have HX5 := Lib.hid hx5
          have HK5 := Lib.hid hk5
          clear hx5 hk5
          gi_wp2
          refine ⟨(Kept.of_below HB4.out).trans (HK5.out.mono (fun j hl hj => ?_)), cntK ts n k, (List.getElem?_eq_some_iff.1 HA.out).1, HX5.out⟩
          rcases hj with h | h
          · exact .inr (by omega)
          · exact .inr (by omega)
    case done =>
      rintro X ⟨hj, hkp⟩ hD
      have HJ1 : Hid (J (hosOf ts n).length (X.putObj w2.heap.size (.deferred none))) := by
        show J _ _
        rw [← cntK_all HS.out]
        exact HJ.out _ X _ hj ⟨rfl, rfl, rfl, by simp, fun j hj => World.putObj_heap_other (by omega)⟩
      clear hj hkp
      gi_wp2
      refine ⟨by simp, .inl ⟨_, _, rfl, run_takeDeferred hD, ?_⟩⟩
      exact ⟨_, results_none rfl _ _ _, ⟨_, rfl⟩, .inl HJ1.out⟩
    case stop =>
      rintro k X hk ⟨k', h1, h2⟩ hD
      have HJ1 : Hid (Jx k' (X.putObj w2.heap.size (.deferred none))) := HJX.out k' X _ _ _ h2 (by omega) hD rfl
      have H1 := Lib.hid h1
      clear h1 h2
      gi_wp2
      refine ⟨by simp, .inl ⟨_, _, rfl, run_takeDeferred hD, ?_⟩⟩
      exact ⟨_, results_none rfl _ _ _, ⟨_, rfl⟩, .inr ⟨k', H1.out, HJ1.out⟩⟩
end

section
/- Contracts of the program's CountOrders and AnyOrder. Nothing that was there is written. -/
open Go.RowKit
set_option linter.unusedVariables false

theorem hos_len {ts : List Tk} {n : Nat} (h : ts.length = n) : (hosOf ts n).length = cntOf ts := by
  unfold hosOf cntOf
  rw [h]
  cases setB ts <;> rfl
theorem hos_most {ts : List Tk} {n : Nat} (h : ts.length = n) : (hosOf ts n).length ≤ 3125 := by
  unfold hosOf
  cases hs : setB ts
  · simp
  · have h5 : n ≤ 5 := by have := setB_len hs; rw [h] at this; exact this
    rw [if_pos rfl]
    exact Nat.le_trans (List.length_filter_le _ _) (Nat.le_trans (all_len n n []) (pow_five h5 h5))
theorem hos_any {ts : List Tk} {n : Nat} (h : ts.length = n) : (hosOf ts n)[0]? = anyOf ts := by
  unfold hosOf anyOf
  rw [h]
  cases setB ts
  · rfl
  · rw [if_pos rfl, if_pos rfl, ← List.head?_eq_getElem?, ← List.head?_filter]
    rfl
theorem results_cells2 {P : Program} {fn : Func} {p q : Tmp} {t u : TypeId} (h : fn.results = #[.cell p t, .cell q u]) (tmps : Array Value) (w : World) (g k : Nat) (v x : Value)
    (hp : tmps.getD p undef = .pointer (some ⟨g, 0, none⟩)) (hq : tmps.getD q undef = .pointer (some ⟨k, 0, none⟩)) (ht : (isAgg t).run P w = .ok false w) (hu : (isAgg u).run P w = .ok false w)
    (hv : w.cell? ⟨g, 0, none⟩ = some v) (hx : w.cell? ⟨k, 0, none⟩ = some x) : (results fn tmps).run P w = .ok (.tuple #[v, x]) w := by
  have hp' : tmps[p]?.getD undef = .pointer (some ⟨g, 0, none⟩) := by simpa using hp
  have hq' : tmps[q]?.getD undef = .pointer (some ⟨k, 0, none⟩) := by simpa using hq
  simp [results, h, hp', hq', asAddr, loadVar, ht, hu, hv, hx, Sem.run_bind, Result.andThen]

attribute [local go_sem] Oper.semAt_some

set_option maxRecDepth 100000 in
set_option maxHeartbeats 4000000 in
theorem iCount_is (w : World) (A : Option Addr) (n c : Nat) (ts : List Tk) (h : Tks w w.heap.size A n ts) (hn : n ≤ 1048576) (r : Nat) (hr : cntOf ts = r) :
    Calls Try.prog 26 #[.slice A n c] w (NRes r w) := by
  have H := Lib.hid h
  have HR : Hid ((hosOf ts n).length = r) := by show _ = _; rw [hos_len h.len]; exact hr
  have HM := Lib.hid (hos_most h.len)
  clear h hr
  refine (callsIn_wide (n := 1)).1 ?_
  refine callsIn_of_wp_marks Try.func26 rfl trivial ?_ rfl
  simp only [Try.ntmps26, List.size_toArray, List.length_cons, List.length_nil, Nat.reduceAdd, Nat.reduceSub, Array.replicate_succ, Array.replicate_zero, List.push_toArray, List.append_toArray, List.nil_append, List.cons_append]
  gi_wp2_with (refine ⟨trivial, ?_⟩; gi_at_call 60; refine (callsIn_wide.2 (iHoldO_is _ A n c)).mono ?_; rintro e w2 ⟨rfl, hw2⟩; have HW2 := Lib.hid hw2; clear hw2)
  have hs2 : w2.heap.size = w.heap.size + 2 := by rw [HW2.out]; simp
  have HB2 : Hid (Below w.heap.size w w2) := by
    show Below _ _ _
    rw [HW2.out]
    exact bl_alloc (bl_alloc (Below.refl _ _) _) _
  have HX2 : Hid (Boxed w2 w.heap.size 3 (.int .i64 0)) := by
    show Boxed _ _ _ _
    rw [HW2.out]
    exact (Boxed.new w _ _).alloc _
  have HC2 : Hid (w2.cell? ⟨w.heap.size + 1, 0, none⟩ = some (.slice A n c)) := by
    show _ = _
    have h := (Boxed.new (w.alloc (.cells #[.int .i64 0] 3)) 23 (.slice A n c)).cell
    rw [World.size_alloc] at h
    rw [HW2.out]
    exact h
  clear HW2
  refine wpIn_rangeOrd (gf := 85) (lb := #[.pointer (some ⟨w.heap.size + 1, 0, none⟩)]) (m := n) (os := hosOf ts n) (S0 := fun k => k < w.heap.size ∨ k = w.heap.size + 1) rfl
    (enters_of Try.func85 (by kernel_rfl) rfl) (fun k e => by omega)
    (fun W1 hb => holdO_seq n w.heap.size (w.heap.size + 1) c A ts W1 (H.out.below (HB2.out.trans (hb.mono (by omega)))) hn (by have := hb.size; omega) ((hb.cell (p := ⟨w.heap.size + 1, 0, none⟩) (by show w.heap.size + 1 < _; omega)).trans HC2.out))
    (fun k X => Boxed X w.heap.size 3 (.int .i64 (k : Int)) ∧ Below w.heap.size w X) (fun _ _ => False)
    (fun k X Y hx hb => ⟨(hb.block _ (by omega)).trans hx.1, hx.2.trans (hb.mono (by omega))⟩)
    (fun k X r o o' hx hr ho hcl => hx)
    ⟨HX2.out, HB2.out⟩
    (fun b => { tmps := #[.slice A n c, undef, .int .i64 0, .pointer (some ⟨w.heap.size, 0, none⟩), .slice A n c, .func (.func 85) #[] #[.pointer (some ⟨w.heap.size + 1, 0, none⟩)], vO n b, undef, undef, undef], defers := [] }) ?assign ?body ?done ?stop
  case assign =>
    intro l2 b X K hK
    gi_wp2
    exact hK
  case body =>
    rintro l2 k o b X hok ⟨hx, hbx⟩ hb hown
    have hk : k < 3125 := Nat.lt_of_lt_of_le (List.getElem?_eq_some_iff.1 hok).1 HM.out
    have hwk : IntKind.i64.wrap ((k : Int) + 1) = (k : Int) + 1 := IntWalk.i64_in _ (by omega)
    have cx := hx.cell
    have fx := hx.frozen
    have HX := Lib.hid hx
    have HBX := Lib.hid hbx
    clear hx hbx hok hown
    gi_wp2
    refine ⟨Kept.set X _ _ (by rintro (h | h) <;> simp at h <;> omega), by have h := HX.out.set (.int .i64 ((k : Int) + 1)); exact h, bl_set HBX.out (Nat.le_refl _) _⟩
  case done =>
    rintro X ⟨hx, hbx⟩ hD
    have cx := hx.cell
    have HBX : Hid (Below w.heap.size w (X.putObj w2.heap.size (.deferred none))) := hbx.trans ⟨rfl, rfl, rfl, by simp, fun j hj => World.putObj_heap_other (by omega)⟩
    rw [HR.out] at cx
    clear hx hbx
    gi_wp2
    refine ⟨by simp, .inl ⟨_, _, rfl, run_takeDeferred hD, ?_⟩⟩
    exact ⟨_, results_tmp rfl _ _ _, rfl, HBX.out⟩
  case stop =>
    rintro k X _ h _
    exact h.elim

def anyIx (w : World) (ts : List Tk) (n : Nat) (X : World) : Prop :=
  ∃ o b, anyOf ts = some o ∧ o.length = n ∧ Boxed X w.heap.size 25 (vO n b) ∧ Boxed X (w.heap.size + 1) 4 (.bool true) ∧ OwnZ X w.heap.size (vO n b) (toZ o) ∧ Below w.heap.size w X

set_option maxRecDepth 100000 in
set_option maxHeartbeats 4000000 in
theorem iAny_is (w : World) (A : Option Addr) (n c : Nat) (ts : List Tk) (h : Tks w w.heap.size A n ts) (hn : n ≤ 1048576) (r : Option (List Nat)) (hr : anyOf ts = r) :
    Calls Try.prog 22 #[.slice A n c] w (ZsRes2 (asgR r) r.isSome w) := by
  have H := Lib.hid h
  have HL := Lib.hid h.len
  have HR := Lib.hid hr
  have HA := Lib.hid (hos_any h.len)
  clear h hr
  refine (callsIn_wide (n := 1)).1 ?_
  refine callsIn_of_wp_marks Try.func22 rfl trivial ?_ rfl
  simp only [Try.ntmps22, List.size_toArray, List.length_cons, List.length_nil, Nat.reduceAdd, Nat.reduceSub, Array.replicate_succ, Array.replicate_zero, List.push_toArray, List.append_toArray, List.nil_append, List.cons_append]
  gi_wp2_with (refine ⟨trivial, ?_⟩; gi_at_call 60; refine (callsIn_wide.2 (iHoldO_is _ A n c)).mono ?_; rintro e w2 ⟨rfl, hw2⟩; have HW2 := Lib.hid hw2; clear hw2)
  have hs2 : w2.heap.size = w.heap.size + 3 := by rw [HW2.out]; simp
  have HB2 : Hid (Below w.heap.size w w2) := by
    show Below _ _ _
    rw [HW2.out]
    exact bl_alloc (bl_alloc (bl_alloc (Below.refl _ _) _) _) _
  have HX2 : Hid (Boxed w2 w.heap.size 25 (.slice none 0 0)) := by
    show Boxed _ _ _ _
    rw [HW2.out]
    exact ((Boxed.new w _ _).alloc _).alloc _
  have HY2 : Hid (Boxed w2 (w.heap.size + 1) 4 (.bool false)) := by
    show Boxed _ _ _ _
    have h := (Boxed.new (w.alloc (.cells #[.slice none 0 0] 25)) 4 (.bool false)).alloc (.cells #[.slice A n c] 23)
    rw [World.size_alloc] at h
    rw [HW2.out]
    exact h
  have HC2 : Hid (w2.cell? ⟨w.heap.size + 1 + 1, 0, none⟩ = some (.slice A n c)) := by
    show _ = _
    have h := (Boxed.new ((w.alloc (.cells #[.slice none 0 0] 25)).alloc (.cells #[.bool false] 4)) 23 (.slice A n c)).cell
    rw [World.size_alloc, World.size_alloc] at h
    rw [HW2.out]
    exact h
  clear HW2
  refine wpIn_rangeOrd (gf := 85) (lb := #[.pointer (some ⟨w.heap.size + 1 + 1, 0, none⟩)]) (m := n) (os := hosOf ts n) (S0 := fun k => k < w.heap.size ∨ k = w.heap.size + 1 + 1) rfl
    (enters_of Try.func85 (by kernel_rfl) rfl) (fun k e => by omega)
    (fun W1 hb => holdO_seq n w.heap.size (w.heap.size + 1 + 1) c A ts W1 (H.out.below (HB2.out.trans (hb.mono (by omega)))) hn (by have := hb.size; omega) ((hb.cell (p := ⟨w.heap.size + 1 + 1, 0, none⟩) (by show w.heap.size + 1 + 1 < _; omega)).trans HC2.out))
    (fun k X => k = 0 ∧ Boxed X w.heap.size 25 (.slice none 0 0) ∧ Boxed X (w.heap.size + 1) 4 (.bool false) ∧ Below w.heap.size w X) (fun _ X => anyIx w ts n X)
    (fun k X Y hx hb => ⟨hx.1, (hb.block _ (by omega)).trans hx.2.1, (hb.block _ (by omega)).trans hx.2.2.1, hx.2.2.2.trans (hb.mono (by omega))⟩)
    (fun k X r o o' hx hr ho hcl => by
      obtain ⟨o, b, h1, h2, h3, h4, h5, h6⟩ := hx
      exact ⟨o, b, h1, h2, (World.putObj_heap_other (by omega)).trans h3, (World.putObj_heap_other (by omega)).trans h4, ownsRow_putObj h5 _ ho hcl, h6.trans ⟨rfl, rfl, rfl, by simp, fun j hj => World.putObj_heap_other (by omega)⟩⟩)
    ⟨rfl, HX2.out, HY2.out, HB2.out⟩
    (fun b => { tmps := #[.slice A n c, undef, .pointer (some ⟨w.heap.size, 0, none⟩), .pointer (some ⟨w.heap.size + 1, 0, none⟩), vO n b, .slice A n c, .func (.func 85) #[] #[.pointer (some ⟨w.heap.size + 1 + 1, 0, none⟩)], vO n b, undef], defers := [] }) ?assign ?body ?done ?stop
  case assign =>
    intro l2 b X K hK
    gi_wp2
    exact hK
  case body =>
    rintro l2 k o b X hok ⟨rfl, hx, hy, hbx⟩ hb hown
    have hao : anyOf ts = some o := HA.out.symm.trans hok
    have hon : o.length = n := by
      have h := (any_some hao).2.1.length_eq
      rw [List.length_range, HL.out] at h
      exact h
    have HAO := Lib.hid hao
    have HON := Lib.hid hon
    have cx := hx.cell
    have fx := hx.frozen
    have cy := hy.cell
    have fy := hy.frozen
    have HX := Lib.hid hx
    have HYY := Lib.hid hy
    have HBX := Lib.hid hbx
    have HOW := Lib.hid hown
    have hsx : w2.heap.size ≤ b := hb
    clear hx hy hbx hok hown hao hon
    simp only [vO]
    gi_wp2
    have k1 : Boxed ((X.setCell ⟨w.heap.size, 0, none⟩ (vO n b)).setCell ⟨w.heap.size + 1, 0, none⟩ (.bool true)) w.heap.size 25 (vO n b) := (HX.out.set (vO n b)).kept (grownBy_setCell' _ _ _) (fun e => by have := Option.some.inj e; omega)
    have k2 : Boxed ((X.setCell ⟨w.heap.size, 0, none⟩ (vO n b)).setCell ⟨w.heap.size + 1, 0, none⟩ (.bool true)) (w.heap.size + 1) 4 (.bool true) := (HYY.out.kept (grownBy_setCell' _ _ _) (fun e => by have := Option.some.inj e; omega)).set (.bool true)
    have k3 : OwnZ ((X.setCell ⟨w.heap.size, 0, none⟩ (vO n b)).setCell ⟨w.heap.size + 1, 0, none⟩ (.bool true)) w.heap.size (vO n b) (toZ o) := by
      refine (OwnZ.same HOW.out ?_).less (by omega)
      exact (Below.heap_setCell _ _ _ b (by dsimp only; omega)).trans (Below.heap_setCell _ _ _ b (by dsimp only; omega))
    have k4 : Below w.heap.size w ((X.setCell ⟨w.heap.size, 0, none⟩ (vO n b)).setCell ⟨w.heap.size + 1, 0, none⟩ (.bool true)) := bl_set (bl_set HBX.out (Nat.le_refl _) _) (by dsimp only; omega) _
    have k5 : Kept (KeepS (fun k => k < w.heap.size ∨ k = w.heap.size + 1 + 1) w2.heap.size) X ((X.setCell ⟨w.heap.size, 0, none⟩ (vO n b)).setCell ⟨w.heap.size + 1, 0, none⟩ (.bool true)) :=
      (Kept.set X _ _ (by rintro ((h | h) | h) <;> dsimp only at h <;> omega)).trans (Kept.set _ _ _ (by rintro ((h | h) | h) <;> dsimp only at h <;> omega))
    exact ⟨k5, o, b, HAO.out, HON.out, k1, k2, k3, k4⟩
  case done =>
    rintro X ⟨hl, hx, hy, hbx⟩ hD
    have hnn : r = none := by
      have h := HA.out
      rw [HR.out] at h
      rw [← h]
      exact List.getElem?_eq_none (by omega)
    subst hnn
    have cx := hx.cell
    have fx := hx.frozen
    have cy := hy.cell
    have fy := hy.frozen
    have HX := Lib.hid hx
    have HYY := Lib.hid hy
    have HBX := Lib.hid hbx
    clear hx hy hbx hl
    gi_wp2
    have hD2 : ((X.setCell ⟨w.heap.size, 0, none⟩ (.slice none 0 0)).setCell ⟨w.heap.size + 1, 0, none⟩ (.bool false)).heap[w2.heap.size]? = some (.deferred (some [])) :=
      (Below.heap_setCell _ _ _ _ (by dsimp only; omega)).trans ((Below.heap_setCell _ _ _ _ (by dsimp only; omega)).trans hD)
    have k1 : Boxed ((X.setCell ⟨w.heap.size, 0, none⟩ (.slice none 0 0)).setCell ⟨w.heap.size + 1, 0, none⟩ (.bool false)) w.heap.size 25 (.slice none 0 0) := (HX.out.set (.slice none 0 0)).kept (grownBy_setCell' _ _ _) (fun e => by have := Option.some.inj e; omega)
    have k2 : Boxed ((X.setCell ⟨w.heap.size, 0, none⟩ (.slice none 0 0)).setCell ⟨w.heap.size + 1, 0, none⟩ (.bool false)) (w.heap.size + 1) 4 (.bool false) := (HYY.out.kept (grownBy_setCell' _ _ _) (fun e => by have := Option.some.inj e; omega)).set (.bool false)
    have k4 : Below w.heap.size w ((X.setCell ⟨w.heap.size, 0, none⟩ (.slice none 0 0)).setCell ⟨w.heap.size + 1, 0, none⟩ (.bool false)) := bl_set (bl_set HBX.out (Nat.le_refl _) _) (by dsimp only; omega) _
    refine ⟨by simp, .inl ⟨_, _, rfl, run_takeDeferred hD2, ?_⟩⟩
    refine ⟨_, results_cells2 rfl _ _ w.heap.size (w.heap.size + 1) (.slice none 0 0) (.bool false) rfl rfl (run_isAgg_plain Try.underlying25 rfl _) (run_isAgg_plain Try.underlying4 rfl _) (Boxed.cell (show Boxed _ _ _ _ from (World.putObj_heap_other (by omega)).trans k1)) (Boxed.cell (show Boxed _ _ _ _ from (World.putObj_heap_other (by omega)).trans k2)), ?_⟩
    exact ⟨none, 0, rfl, ⟨rfl, .inl ⟨rfl, rfl⟩⟩, k4.trans ⟨rfl, rfl, rfl, by simp, fun j hj => World.putObj_heap_other (by omega)⟩⟩
  case stop =>
    rintro k X _ ⟨o, b, h1, h2, h3, h4, h5, h6⟩ hD
    gi_wp2
    obtain rfl : r = some o := HR.out.symm.trans h1
    have hlz : (toZ o).length = n := by rw [toZ_len]; exact h2
    refine ⟨by simp, .inl ⟨_, _, rfl, run_takeDeferred hD, ?_⟩⟩
    refine ⟨_, results_cells2 rfl _ _ w.heap.size (w.heap.size + 1) (vO n b) (.bool true) rfl rfl (run_isAgg_plain Try.underlying25 rfl _) (run_isAgg_plain Try.underlying4 rfl _) (Boxed.cell (show Boxed _ _ _ _ from (World.putObj_heap_other (by omega)).trans h3)) (Boxed.cell (show Boxed _ _ _ _ from (World.putObj_heap_other (by omega)).trans h4)), ?_⟩
    refine ⟨some ⟨b, 0, none⟩, n, ?_, ?_, h6.trans ⟨rfl, rfl, rfl, by simp, fun j hj => World.putObj_heap_other (by omega)⟩⟩
    · show _ = Ending.returned (.tuple #[.slice _ (toZ o).length n, _])
      rw [hlz]; rfl
    · show OwnZ _ _ (.slice _ (toZ o).length n) (toZ o)
      rw [hlz]
      exact ownsRow_putObj h5 _ hD rfl
end

section
/- Contracts of slices.Grow and slices.Concat at lists of numbers, and of the program's without there. Nothing that was there is written. -/
open Go.RowKit
set_option linter.unusedVariables false

theorem own_grown (w : World) (m : Nat) (hm : m ≤ 100) : OwnZ (w.drew.alloc (.cells (Builtin.zeroCells (Value.int .i64 0).cells m ++ Builtin.zeroCells (Value.int .i64 0).cells (grownCap w m 0 3 - m)) 3)) w.heap.size (.slice (some ⟨w.heap.size, 0, none⟩) 0 (grownCap w m 0 3)) [] := by
  have hge := grownCap_ge w m 0 3
  refine ⟨rfl, .inr ⟨w.heap.size, _, _, rfl, Nat.le_refl _, heap_alloc_new w.drew _, Nat.zero_le _, grownCap_le_maxLen w m 0 3 (by unfold maxLen; omega), ?_, by simp⟩⟩
  rw [Array.size_append, size_zeroCells, size_zeroCells]
  show m * 1 + (grownCap w m 0 3 - m) * 1 = grownCap w m 0 3 * 1
  omega

set_option maxRecDepth 100000 in
set_option maxHeartbeats 1000000 in
theorem iGrowZ_is (w : World) (m : Nat) (hm : m ≤ 100) :
    Calls Try.prog 97 #[.slice none 0 0, .int .i64 (m : Int)] w (ZsRes [] w) := by
  obtain ⟨i0, hi, hz0, hz1, hz2⟩ := info_parts info_int
  by_cases h0 : m = 0
  · subst h0
    go_enter Try.func97, Try.ntmps97
    go_wp2
    go_ret
    exact ⟨none, 0, rfl, ⟨rfl, .inl ⟨rfl, rfl⟩⟩, Below.refl _ _⟩
  · have hp : (0 : Int) < (m : Int) := by omega
    have hnn : ¬ (m : Int) < 0 := by omega
    have hw : IntKind.i64.wrap (m : Int) = (m : Int) := IntWalk.i64_in _ (by omega)
    have hr := Lib.run_append_nil_zeros (P := Try.prog) w 25 3 25 3 i0 (.int .i64 0) .i64 .i64 Try.underlying25 Try.underlying3 hi hz0 m (by omega) (by rw [hz1]; decide) (by omega) (by rw [hz2]; omega)
    have HR := Lib.hid hr
    have HG := Lib.hid (own_grown w m hm)
    have hcap : (0 : Int) ≤ (grownCap w m 0 3 : Int) := by omega
    clear hr
    go_enter Try.func97, Try.ntmps97
    go_wp2_with (at_builtin; refine Lib.wpList_append_run _ rfl (.tmp 20) (.tmp 21) _ _ rfl _ _ rfl rfl _ _ HR.out ?_)
    go_ret
    exact ⟨_, _, rfl, HG.out, bl_alloc (Below.drew (Below.refl _ _)) _⟩

def catZ {α : Type} (xs ys : List α) : Nat → List α
  | 0 => []
  | 1 => xs
  | _ => xs ++ ys
theorem upto_two {k : Nat} (h : k ≤ 2) : k = 0 ∨ k = 1 ∨ k = 2 := by omega

set_option maxRecDepth 100000 in
set_option maxHeartbeats 2000000 in
theorem iConcZ_is (w : World) (g : Nat) (A1 A2 : Addr) (n1 c1 n2 c2 : Nat) (xs ys : List Int) (hg : g < w.heap.size) (h0 : w.cell? ⟨g, 0, none⟩ = some (.slice (some A1) n1 c1)) (h1 : w.cell? ⟨g, 1, none⟩ = some (.slice (some A2) n2 c2))
    (hx : Zs w w.heap.size (some A1) n1 xs) (hy : Zs w w.heap.size (some A2) n2 ys) (hxn : n1 ≤ 50) (hyn : n2 ≤ 50) (hA1 : A1.spot = none) (hA2 : A2.spot = none) :
    Calls Try.prog 82 #[.slice (some ⟨g, 0, none⟩) 2 2] w (ZsRes (xs ++ ys) w) := by
  obtain ⟨i0, hi, hz0, hz1, hz2⟩ := info_parts info_int
  obtain ⟨a1, o1, s1⟩ := A1
  obtain ⟨a2, o2, s2⟩ := A2
  dsimp only at hA1 hA2
  subst hA1 hA2
  have HX := Lib.hid hx
  have HY := Lib.hid hy
  have HXL : Hid (xs.length = n1) := hx.len
  have HYL : Hid (ys.length = n2) := hy.len
  clear hx hy
  go_enter Try.func82, Try.ntmps82
  go_wp2
  go_loopw [3, 11] (fun s i wr => ∃ k : Nat, k ≤ 2 ∧ i = .int .i64 k ∧ s = .int .i64 ((catZ (List.replicate n1 0) (List.replicate n2 0) k).length : Int) ∧ Below w.heap.size w wr) (fun _ i _ => 2 - (intOf i).toNat)
  case atStart => exact ⟨0, Nat.zero_le _, rfl, rfl, Below.refl _ _⟩
  case round =>
    obtain ⟨k, hk, rfl, rfl, hb⟩ := hrel
    have e0 : wr.cell? ⟨g, 0, none⟩ = some (.slice (some ⟨a1, o1, none⟩) n1 c1) := (hb.cell (p := ⟨g, 0, none⟩) hg).trans h0
    have e1 : wr.cell? ⟨g, 1, none⟩ = some (.slice (some ⟨a2, o2, none⟩) n2 c2) := (hb.cell (p := ⟨g, 1, none⟩) hg).trans h1
    have HB := Lib.hid hb
    clear hb
    rcases upto_two hk with rfl | rfl | rfl
    · simp only [catZ, List.length_nil]
      have j1 : IntKind.i64.wrap (n1 : Int) = (n1 : Int) := IntWalk.i64_in _ (by omega)
      go_wp2
      go_roundw
      case rel => exact ⟨1, by omega, by go_num, by simp only [List.length_replicate], HB.out⟩
      case measure => simp [intOf]
    · simp only [catZ, List.length_replicate]
      have j1 : IntKind.i64.wrap ((n1 : Int) + (n2 : Int)) = (n1 : Int) + (n2 : Int) := IntWalk.i64_in _ (by omega)
      go_wp2
      go_roundw
      case rel => exact ⟨2, by omega, by go_num, by simp only [List.length_append, List.length_replicate]; go_num, HB.out⟩
      case measure => simp [intOf]
    · simp only [catZ, List.length_append, List.length_replicate]
      obtain ⟨m, hm⟩ : ∃ m, n1 + n2 = m := ⟨_, rfl⟩
      rw [hm]
      have hm1 : m ≤ 100 := by omega
      have HM := Lib.hid hm
      clear hm
      go_wp2_with fail
      refine (iGrowZ_is wr m hm1).mono ?_
      rintro e w2 ⟨A3, c3, rfl, ho3, hb3⟩
      have HB3 := Lib.hid (bl_trans HB.out hb3)
      have HO3 := Lib.hid (ho3.less HB.out.size)
      clear ho3 hb3
      go_wp2
      go_loopw [6, 27] (fun v i wr => ∃ k : Nat, k ≤ 2 ∧ i = .int .i64 k ∧ OwnZ wr w.heap.size v (catZ xs ys k) ∧ Below w.heap.size w wr) (fun _ i _ => 2 - (intOf i).toNat)
      case atStart => exact ⟨0, Nat.zero_le _, rfl, HO3.out, HB3.out⟩
      case round =>
        obtain ⟨k, hk, rfl, ho, hb⟩ := hrel
        have e0 : wr.cell? ⟨g, 0, none⟩ = some (.slice (some ⟨a1, o1, none⟩) n1 c1) := (hb.cell (p := ⟨g, 0, none⟩) hg).trans h0
        have e1 : wr.cell? ⟨g, 1, none⟩ = some (.slice (some ⟨a2, o2, none⟩) n2 c2) := (hb.cell (p := ⟨g, 1, none⟩) hg).trans h1
        have HB4 := Lib.hid hb
        have HO4 := Lib.hid ho
        clear hb ho
        rcases upto_two hk with rfl | rfl | rfl
        · simp only [catZ] at HO4
          have b1 : 0 + n1 ≤ maxLen := by unfold maxLen; omega
          have b2 : (0 + n1) * 8 ≤ 140737488355328 := by omega
          go_wp2_with (at_builtin; refine wpList_append_own _ rfl (.tmp 31) (.tmp 32) 25 rfl w.heap.size 3 i0 _ 1 8 Try.underlying25 hi hz0 hz1 hz2 rfl (by decide) _ 0 [] rfl HO4.out ⟨a1, o1, none⟩ n1 c1 (xs.map (Value.int .i64)) rfl (by rw [List.length_map, HXL.out, Nat.mul_one]) (Zs.cells (HX.out.below HB4.out)) (zs_one _) b1 b2 HB4.out.size ?_; intro v' w4 hown' hgrow _)
          have HO5 : Hid (OwnZ w4 w.heap.size v' xs) := by show w4.ownsRow _ _ _ _ _ _; rw [HXL.out]; simpa using hown'
          have HB5 := Lib.hid (HB4.out.grown hgrow HB4.out.size (fun k e => (World.ownsRow.lt HO4.out k e).1))
          clear hown' hgrow b1 b2
          go_wp2
          go_roundw
          case rel => exact ⟨1, by omega, by go_num, HO5.out, HB5.out⟩
          case measure => simp [intOf]
        · simp only [catZ] at HO4
          have b1 : xs.length + n2 ≤ maxLen := by have := HXL.out; unfold maxLen; omega
          have b2 : (xs.length + n2) * 8 ≤ 140737488355328 := by have := HXL.out; omega
          go_wp2_with (at_builtin; refine wpList_append_own _ rfl (.tmp 31) (.tmp 32) 25 rfl w.heap.size 3 i0 _ 1 8 Try.underlying25 hi hz0 hz1 hz2 rfl (by decide) _ xs.length (xs.map (Value.int .i64)) rfl HO4.out ⟨a2, o2, none⟩ n2 c2 (ys.map (Value.int .i64)) rfl (by rw [List.length_map, HYL.out, Nat.mul_one]) (Zs.cells (HY.out.below HB4.out)) (zs_one _) b1 b2 HB4.out.size ?_; intro v' w4 hown' hgrow _)
          have HO5 : Hid (OwnZ w4 w.heap.size v' (xs ++ ys)) := by show w4.ownsRow _ _ _ _ _ _; rw [List.length_append, HYL.out, List.map_append]; exact hown'
          have HB5 := Lib.hid (HB4.out.grown hgrow HB4.out.size (fun k e => (World.ownsRow.lt HO4.out k e).1))
          clear hown' hgrow b1 b2
          go_wp2
          go_roundw
          case rel => exact ⟨2, by omega, by go_num, HO5.out, HB5.out⟩
          case measure => simp [intOf]
        · simp only [catZ] at HO4
          go_wp2
          go_ret
          obtain ⟨A5, c5, rfl⟩ := HO4.out.form
          exact ⟨A5, c5, rfl, HO4.out, HB4.out⟩

theorem erase_two {α : Type} (zs : List α) (k : Nat) : zs.take k ++ zs.drop (k + 1) = zs.eraseIdx k := by rw [List.eraseIdx_eq_take_drop_succ]
theorem two_c0 (w : World) (u v : Value) (t : TypeId) : ((w.alloc (.cells #[u, v] t)).drew).cell? ⟨w.heap.size, 0, none⟩ = some u := by
  show (w.alloc (.cells #[u, v] t)).cell? ⟨w.heap.size, 0, none⟩ = _
  rw [cell_of_row _ w.heap.size 0 _ _ _ (heap_alloc_new w _)]; rfl
theorem two_c1 (w : World) (u v : Value) (t : TypeId) : ((w.alloc (.cells #[u, v] t)).drew).cell? ⟨w.heap.size, 1, none⟩ = some v := by
  show (w.alloc (.cells #[u, v] t)).cell? ⟨w.heap.size, 1, none⟩ = _
  rw [cell_of_row _ w.heap.size 1 _ _ _ (heap_alloc_new w _)]; rfl
theorem two_b (w : World) (u v : Value) (t : TypeId) : Below w.heap.size w ((w.alloc (.cells #[u, v] t)).drew) := Below.drew (bl_alloc (Below.refl _ _) _)
theorem two_s (w : World) (u v : Value) (t : TypeId) : w.heap.size < ((w.alloc (.cells #[u, v] t)).drew).heap.size := by show _ < (w.alloc _).heap.size; simp

set_option maxRecDepth 100000 in
set_option maxHeartbeats 2000000 in
theorem iWithoutZ_is (w : World) (A : Option Addr) (n c : Nat) (zs : List Int) (k : Nat) (h : Zs w w.heap.size A n zs) (hn : n ≤ 50) (hnc : n ≤ c) (hk : k < n) :
    Calls Try.prog 56 #[.slice A n c, .int .i64 (k : Int)] w (ZsRes (zs.eraseIdx k) w) := by
  obtain ⟨z, hz⟩ := zs_at h hk
  obtain ⟨bb, oo, rfl, hbl, _⟩ := h.at_ k _ hz
  have H := Lib.hid h
  have HL := Lib.hid h.len
  clear h hz
  have i1 : (k : Int) ≤ (c : Int) := by omega
  have i2 : (k : Int) + 1 ≤ (n : Int) := by omega
  have i3 : (k : Int) + 1 ≤ (c : Int) := by omega
  have i4 : (n : Int) ≤ (c : Int) := by omega
  have i5 : (0 : Int) ≤ (k : Int) + 1 := by omega
  obtain ⟨L, hL⟩ : ∃ L, L = zs.eraseIdx k := ⟨_, rfl⟩
  have HT : Hid (zs.take k ++ zs.drop (k + 1) = L) := (erase_two zs k).trans hL.symm
  rw [← hL]
  clear hL
  have kw : IntKind.i64.wrap ((k : Int) + 1) = (k : Int) + 1 := IntWalk.i64_in _ (by omega)
  have kn : ((k : Int) + 1).toNat = k + 1 := by omega
  by_cases hkc : k + 1 = c
  · subst hkc
    obtain rfl : n = k + 1 := by omega
    have i7 : (k : Int) ≤ (k : Int) + 1 := by omega
    have HD : Hid (Zs w w.heap.size (some ⟨bb, oo, none⟩) 0 (zs.drop (k + 1))) := ⟨by rw [List.length_drop, HL.out, Nat.sub_self], fun i z hz => by rw [List.getElem?_drop, List.getElem?_eq_none (by have := HL.out; omega)] at hz; cases hz⟩
    go_enter Try.func56, Try.ntmps56
    go_wp2_with fail
    go_region_with (go_at_call 82; refine (iConcZ_is _ w.heap.size ⟨bb, oo, none⟩ ⟨bb, oo, none⟩ k (k + 1) 0 0 (zs.take k) (zs.drop (k + 1)) ?_ ?_ ?_ ?_ ?_ (by omega) (by omega) rfl rfl).mono ?_; exact two_s _ _ _ _; exact two_c0 _ _ _ _; exact two_c1 _ _ _ _; exact ((H.out.take (by omega)).below (two_b _ _ _ _)).more (two_b _ _ _ _).size; exact (HD.out.below (two_b _ _ _ _)).more (two_b _ _ _ _).size; rintro e w2 hz; rw [HT.out] at hz; obtain ⟨A3, c3, rfl, ho, hb⟩ := hz; have HO := Lib.hid (ho.less (two_b _ _ _ _).size); have HB := Lib.hid (bl_trans (two_b _ _ _ _) hb); clear ho hb)
    go_wp2
    go_ret
    exact ⟨A3, c3, rfl, HO.out, HB.out⟩
  · have j1 : ((k : Int) + 1 == (c : Int)) = false := by rw [beq_eq_false_iff_ne]; omega
    have j2 : ¬ (k : Int) + 1 = (c : Int) := by omega
    have j4 : ¬ c = k + 1 := by omega
    go_enter Try.func56, Try.ntmps56
    go_wp2_with fail
    go_region_with (go_at_call 82; refine (iConcZ_is _ w.heap.size ⟨bb, oo, none⟩ ⟨bb, oo + (k + 1), none⟩ k c (n - (k + 1)) (c - (k + 1)) (zs.take k) (zs.drop (k + 1)) ?_ ?_ ?_ ?_ ?_ (by omega) (by omega) rfl rfl).mono ?_; exact two_s _ _ _ _; exact two_c0 _ _ _ _; exact two_c1 _ _ _ _; exact ((H.out.take (by omega)).below (two_b _ _ _ _)).more (two_b _ _ _ _).size; exact ((H.out.drop rfl).below (two_b _ _ _ _)).more (two_b _ _ _ _).size; rintro e w2 hz; rw [HT.out] at hz; obtain ⟨A3, c3, rfl, ho, hb⟩ := hz; have HO := Lib.hid (ho.less (two_b _ _ _ _).size); have HB := Lib.hid (bl_trans (two_b _ _ _ _) hb); clear ho hb)
    go_wp2
    go_ret
    exact ⟨A3, c3, rfl, HO.out, HB.out⟩
end

section
/- Contracts of slices.Grow and slices.Concat at lists of tasks, and of the program's without there. Nothing that was there is written. -/
open Go.RowKit
set_option linter.unusedVariables false

theorem own_grownT (w : World) (m : Nat) (hm : m ≤ 100) : Own (w.drew.alloc (.cells (Builtin.zeroCells (Value.agg #[.int .i64 0, .int .i64 0, .int .i64 0, .int .i64 0, .bool false]).cells m ++ Builtin.zeroCells (Value.agg #[.int .i64 0, .int .i64 0, .int .i64 0, .int .i64 0, .bool false]).cells (grownCap w m 0 36 - m)) 36)) w.heap.size (.slice (some ⟨w.heap.size, 0, none⟩) 0 (grownCap w m 0 36)) [] := by
  have hge := grownCap_ge w m 0 36
  refine ⟨rfl, .inr ⟨w.heap.size, _, _, rfl, Nat.le_refl _, heap_alloc_new w.drew _, Nat.zero_le _, grownCap_le_maxLen w m 0 36 (by unfold maxLen; omega), ?_, by simp⟩⟩
  rw [Array.size_append, size_zeroCells, size_zeroCells]
  show m * 5 + (grownCap w m 0 36 - m) * 5 = grownCap w m 0 36 * 5
  omega

set_option maxRecDepth 100000 in
set_option maxHeartbeats 1000000 in
theorem iGrowT_is (w : World) (m : Nat) (hm : m ≤ 100) :
    Calls Try.prog 104 #[.slice none 0 0, .int .i64 (m : Int)] w (LsRes [] w) := by
  obtain ⟨i0, hi, hz0, hz1, hz2⟩ := info_parts info_task
  by_cases h0 : m = 0
  · subst h0
    go_enter Try.func104, Try.ntmps104
    go_wp2
    go_ret
    exact ⟨none, 0, rfl, ⟨rfl, .inl ⟨rfl, rfl⟩⟩, Below.refl _ _⟩
  · have hp : (0 : Int) < (m : Int) := by omega
    have hnn : ¬ (m : Int) < 0 := by omega
    have hw : IntKind.i64.wrap (m : Int) = (m : Int) := IntWalk.i64_in _ (by omega)
    have hr := Lib.run_append_nil_zeros (P := Try.prog) w 23 3 23 36 i0 (Value.agg #[.int .i64 0, .int .i64 0, .int .i64 0, .int .i64 0, .bool false]) .i64 .i64 Try.underlying23 Try.underlying3 hi hz0 m (by omega) (by rw [hz1]; decide) (by omega) (by rw [hz2]; omega)
    have HR := Lib.hid hr
    have HG := Lib.hid (own_grownT w m hm)
    have hcap : (0 : Int) ≤ (grownCap w m 0 36 : Int) := by omega
    clear hr
    go_enter Try.func104, Try.ntmps104
    go_wp2_with (at_builtin; refine Lib.wpList_append_run _ rfl (.tmp 20) (.tmp 21) _ _ rfl _ _ rfl rfl _ _ HR.out ?_)
    go_ret
    exact ⟨_, _, rfl, HG.out, bl_alloc (Below.drew (Below.refl _ _)) _⟩

set_option maxRecDepth 100000 in
set_option maxHeartbeats 2000000 in
theorem iConcT_is (w : World) (g : Nat) (A1 A2 : Addr) (n1 c1 n2 c2 : Nat) (xs ys : List Tk) (hg : g < w.heap.size) (h0 : w.cell? ⟨g, 0, none⟩ = some (.slice (some A1) n1 c1)) (h1 : w.cell? ⟨g, 1, none⟩ = some (.slice (some A2) n2 c2))
    (hx : Tks w w.heap.size (some A1) n1 xs) (hy : Tks w w.heap.size (some A2) n2 ys) (hxn : n1 ≤ 50) (hyn : n2 ≤ 50) (hA1 : A1.spot = none) (hA2 : A2.spot = none) :
    Calls Try.prog 96 #[.slice (some ⟨g, 0, none⟩) 2 2] w (LsRes (xs ++ ys) w) := by
  obtain ⟨i0, hi, hz0, hz1, hz2⟩ := info_parts info_task
  obtain ⟨a1, o1, s1⟩ := A1
  obtain ⟨a2, o2, s2⟩ := A2
  dsimp only at hA1 hA2
  subst hA1 hA2
  have HX := Lib.hid hx
  have HY := Lib.hid hy
  have HXL : Hid (xs.length = n1) := hx.len
  have HYL : Hid (ys.length = n2) := hy.len
  clear hx hy
  go_enter Try.func96, Try.ntmps96
  go_wp2
  go_loopw [3, 11] (fun s i wr => ∃ k : Nat, k ≤ 2 ∧ i = .int .i64 k ∧ s = .int .i64 ((catZ (List.replicate n1 0) (List.replicate n2 0) k).length : Int) ∧ Below w.heap.size w wr) (fun _ i _ => 2 - (intOf i).toNat)
  case atStart => exact ⟨0, Nat.zero_le _, rfl, rfl, Below.refl _ _⟩
  case round =>
    obtain ⟨k, hk, rfl, rfl, hb⟩ := hrel
    have e0 : wr.cell? ⟨g, 0, none⟩ = some (.slice (some ⟨a1, o1, none⟩) n1 c1) := (hb.cell (p := ⟨g, 0, none⟩) hg).trans h0
    have e1 : wr.cell? ⟨g, 1, none⟩ = some (.slice (some ⟨a2, o2, none⟩) n2 c2) := (hb.cell (p := ⟨g, 1, none⟩) hg).trans h1
    have HB := Lib.hid hb
    clear hb
    rcases upto_two hk with rfl | rfl | rfl
    · simp only [catZ, List.length_nil]
      have j1 : IntKind.i64.wrap (n1 : Int) = (n1 : Int) := IntWalk.i64_in _ (by omega)
      go_wp2
      go_roundw
      case rel => exact ⟨1, by omega, by go_num, by simp only [List.length_replicate], HB.out⟩
      case measure => simp [intOf]
    · simp only [catZ, List.length_replicate]
      have j1 : IntKind.i64.wrap ((n1 : Int) + (n2 : Int)) = (n1 : Int) + (n2 : Int) := IntWalk.i64_in _ (by omega)
      go_wp2
      go_roundw
      case rel => exact ⟨2, by omega, by go_num, by simp only [List.length_append, List.length_replicate]; go_num, HB.out⟩
      case measure => simp [intOf]
    · simp only [catZ, List.length_append, List.length_replicate]
      obtain ⟨m, hm⟩ : ∃ m, n1 + n2 = m := ⟨_, rfl⟩
      rw [hm]
      have hm1 : m ≤ 100 := by omega
      have HM := Lib.hid hm
      clear hm
      go_wp2_with fail
      refine (iGrowT_is wr m hm1).mono ?_
      rintro e w2 ⟨A3, c3, rfl, ho3, hb3⟩
      have HB3 := Lib.hid (bl_trans HB.out hb3)
      have HO3 := Lib.hid (own_more ho3 HB.out.size)
      clear ho3 hb3
      go_wp2
      go_loopw [6, 27] (fun v i wr => ∃ k : Nat, k ≤ 2 ∧ i = .int .i64 k ∧ Own wr w.heap.size v (catZ xs ys k) ∧ Below w.heap.size w wr) (fun _ i _ => 2 - (intOf i).toNat)
      case atStart => exact ⟨0, Nat.zero_le _, rfl, HO3.out, HB3.out⟩
      case round =>
        obtain ⟨k, hk, rfl, ho, hb⟩ := hrel
        have e0 : wr.cell? ⟨g, 0, none⟩ = some (.slice (some ⟨a1, o1, none⟩) n1 c1) := (hb.cell (p := ⟨g, 0, none⟩) hg).trans h0
        have e1 : wr.cell? ⟨g, 1, none⟩ = some (.slice (some ⟨a2, o2, none⟩) n2 c2) := (hb.cell (p := ⟨g, 1, none⟩) hg).trans h1
        have HB4 := Lib.hid hb
        have HO4 := Lib.hid ho
        clear hb ho
        rcases upto_two hk with rfl | rfl | rfl
        · simp only [catZ] at HO4
          have b1 : 0 + n1 ≤ maxLen := by unfold maxLen; omega
          have b2 : (0 + n1) * 40 ≤ 140737488355328 := by omega
          go_wp2_with (at_builtin; refine wpList_append_own _ rfl (.tmp 31) (.tmp 32) 23 rfl w.heap.size 36 i0 _ 5 40 Try.underlying23 hi hz0 hz1 hz2 rfl (by decide) _ 0 [] rfl HO4.out ⟨a1, o1, none⟩ n1 c1 (xs.flatMap Tk.cells) rfl (by rw [cells_length, HXL.out]) (Tks.cells (HX.out.below HB4.out)) (cells_one _) b1 b2 HB4.out.size ?_; intro v' w4 hown' hgrow _)
          have HO5 : Hid (Own w4 w.heap.size v' xs) := by show w4.ownsRow _ _ _ _ _ _; rw [HXL.out]; simpa using hown'
          have HB5 := Lib.hid (HB4.out.grown hgrow HB4.out.size (fun k e => (World.ownsRow.lt HO4.out k e).1))
          clear hown' hgrow b1 b2
          go_wp2
          go_roundw
          case rel => exact ⟨1, by omega, by go_num, HO5.out, HB5.out⟩
          case measure => simp [intOf]
        · simp only [catZ] at HO4
          have b1 : xs.length + n2 ≤ maxLen := by have := HXL.out; unfold maxLen; omega
          have b2 : (xs.length + n2) * 40 ≤ 140737488355328 := by have := HXL.out; omega
          go_wp2_with (at_builtin; refine wpList_append_own _ rfl (.tmp 31) (.tmp 32) 23 rfl w.heap.size 36 i0 _ 5 40 Try.underlying23 hi hz0 hz1 hz2 rfl (by decide) _ xs.length (xs.flatMap Tk.cells) rfl HO4.out ⟨a2, o2, none⟩ n2 c2 (ys.flatMap Tk.cells) rfl (by rw [cells_length, HYL.out]) (Tks.cells (HY.out.below HB4.out)) (cells_one _) b1 b2 HB4.out.size ?_; intro v' w4 hown' hgrow _)
          have HO5 : Hid (Own w4 w.heap.size v' (xs ++ ys)) := by show w4.ownsRow _ _ _ _ _ _; rw [List.length_append, HYL.out, List.flatMap_append]; exact hown'
          have HB5 := Lib.hid (HB4.out.grown hgrow HB4.out.size (fun k e => (World.ownsRow.lt HO4.out k e).1))
          clear hown' hgrow b1 b2
          go_wp2
          go_roundw
          case rel => exact ⟨2, by omega, by go_num, HO5.out, HB5.out⟩
          case measure => simp [intOf]
        · simp only [catZ] at HO4
          go_wp2
          go_ret
          obtain ⟨A5, c5, rfl⟩ := HO4.out.form
          exact ⟨A5, c5, rfl, HO4.out, HB4.out⟩

set_option maxRecDepth 100000 in
set_option maxHeartbeats 2000000 in
theorem iWithoutT_is (w : World) (A : Option Addr) (n c : Nat) (zs : List Tk) (k : Nat) (h : Tks w w.heap.size A n zs) (hn : n ≤ 50) (hnc : n ≤ c) (hk : k < n) :
    Calls Try.prog 80 #[.slice A n c, .int .i64 (k : Int)] w (LsRes (zs.eraseIdx k) w) := by
  obtain ⟨z, hz⟩ := get_at h.len hk
  obtain ⟨bb, oo, rfl, hbl, _⟩ := h.at_ k _ hz
  have H := Lib.hid h
  have HL := Lib.hid h.len
  clear h hz
  have i1 : (k : Int) ≤ (c : Int) := by omega
  have i2 : (k : Int) + 1 ≤ (n : Int) := by omega
  have i3 : (k : Int) + 1 ≤ (c : Int) := by omega
  have i4 : (n : Int) ≤ (c : Int) := by omega
  have i5 : (0 : Int) ≤ (k : Int) + 1 := by omega
  obtain ⟨L, hL⟩ : ∃ L, L = zs.eraseIdx k := ⟨_, rfl⟩
  have HT : Hid (zs.take k ++ zs.drop (k + 1) = L) := (erase_two zs k).trans hL.symm
  rw [← hL]
  clear hL
  have kw : IntKind.i64.wrap ((k : Int) + 1) = (k : Int) + 1 := IntWalk.i64_in _ (by omega)
  have kn : ((k : Int) + 1).toNat = k + 1 := by omega
  by_cases hkc : k + 1 = c
  · subst hkc
    obtain rfl : n = k + 1 := by omega
    have i7 : (k : Int) ≤ (k : Int) + 1 := by omega
    have HD : Hid (Tks w w.heap.size (some ⟨bb, oo, none⟩) 0 (zs.drop (k + 1))) := ⟨by rw [List.length_drop, HL.out, Nat.sub_self], fun i z hz => by rw [List.getElem?_drop, List.getElem?_eq_none (by have := HL.out; omega)] at hz; cases hz⟩
    go_enter Try.func80, Try.ntmps80
    go_wp2_with fail
    go_region_with (go_at_call 96; refine (iConcT_is _ w.heap.size ⟨bb, oo, none⟩ ⟨bb, oo, none⟩ k (k + 1) 0 0 (zs.take k) (zs.drop (k + 1)) ?_ ?_ ?_ ?_ ?_ (by omega) (by omega) rfl rfl).mono ?_; exact two_s _ _ _ _; exact two_c0 _ _ _ _; exact two_c1 _ _ _ _; exact ((Tks.take H.out (by omega)).below (two_b _ _ _ _)).more (two_b _ _ _ _).size; exact (HD.out.below (two_b _ _ _ _)).more (two_b _ _ _ _).size; rintro e w2 hz; rw [HT.out] at hz; obtain ⟨A3, c3, rfl, ho, hb⟩ := hz; have HO := Lib.hid (own_more ho (two_b _ _ _ _).size); have HB := Lib.hid (bl_trans (two_b _ _ _ _) hb); clear ho hb)
    go_wp2
    go_ret
    exact ⟨A3, c3, rfl, HO.out, HB.out⟩
  · have j1 : ((k : Int) + 1 == (c : Int)) = false := by rw [beq_eq_false_iff_ne]; omega
    have j2 : ¬ (k : Int) + 1 = (c : Int) := by omega
    have j4 : ¬ c = k + 1 := by omega
    go_enter Try.func80, Try.ntmps80
    go_wp2_with fail
    go_region_with (go_at_call 96; refine (iConcT_is _ w.heap.size ⟨bb, oo, none⟩ ⟨bb, oo + (k + 1) * 5, none⟩ k c (n - (k + 1)) (c - (k + 1)) (zs.take k) (zs.drop (k + 1)) ?_ ?_ ?_ ?_ ?_ (by omega) (by omega) rfl rfl).mono ?_; exact two_s _ _ _ _; exact two_c0 _ _ _ _; exact two_c1 _ _ _ _; exact ((Tks.take H.out (by omega)).below (two_b _ _ _ _)).more (two_b _ _ _ _).size; exact ((Tks.drop (k := k + 1) H.out rfl).below (two_b _ _ _ _)).more (two_b _ _ _ _).size; rintro e w2 hz; rw [HT.out] at hz; obtain ⟨A3, c3, rfl, ho, hb⟩ := hz; have HO := Lib.hid (own_more ho (two_b _ _ _ _).size); have HB := Lib.hid (bl_trans (two_b _ _ _ _) hb); clear ho hb)
    go_wp2
    go_ret
    exact ⟨A3, c3, rfl, HO.out, HB.out⟩
end

section
/- Contract of the program's CanBeLast. Nothing that was there is written. -/
open Go.RowKit
set_option linter.unusedVariables false

set_option maxRecDepth 100000 in
set_option maxHeartbeats 2000000 in
theorem iCan_is (w : World) (A : Option Addr) (n c : Nat) (ts : List Tk) (a : Int) (h : Tks w w.heap.size A n ts) (hn : n ≤ 1048576) (hnc : n ≤ c) (b : Bool) (hv : (decide (0 ≤ a) && canL ts a.toNat) = b) :
    Calls Try.prog 81 #[.slice A n c, .int .i64 a] w fun e w' => e = .returned (.bool b) ∧ Below w.heap.size w w' := by
  obtain ⟨i0, hi, hz0, hz1, hz2⟩ := info_parts info_task
  have H := Lib.hid h
  have HL := Lib.hid h.len
  clear h
  cases hh : (setB ts && (decide (0 ≤ a) && decide (a < (n : Int))))
  · obtain rfl : b = false := by
      rw [← hv]
      cases hs : setB ts
      · rw [can_bad _ hs, Bool.and_false]
      · rw [hs, Bool.true_and] at hh
        by_cases h0 : 0 ≤ a
        · rw [decide_eq_true h0, Bool.true_and] at hh
          have h1 : ¬ a < (n : Int) := of_decide_eq_false hh
          rw [can_past (List.getElem?_eq_none (by have := HL.out; omega)), Bool.and_false]
        · rw [decide_eq_false h0]; rfl
    have HH := Lib.hid hh
    clear hv hh
    go_enter Try.func81, Try.ntmps81
    go_wp2_with (go_at_call 79; refine (iHas_is _ A n c ts a H.out hn false HH.out).mono ?_; rintro e w1 ⟨rfl, hb⟩)
    go_ret
    exact ⟨rfl, hb⟩
  have HH := Lib.hid hh
  rw [Bool.and_eq_true, Bool.and_eq_true, decide_eq_true_iff, decide_eq_true_iff] at hh
  obtain ⟨hs, h0, h1⟩ := hh
  obtain ⟨k, rfl⟩ := Int.eq_ofNat_of_zero_le h0
  have hk : k < n := by omega
  obtain ⟨t, ht⟩ := get_at HL.out hk
  obtain ⟨bb, oo, rfl, hbl, _⟩ := H.out.at_ k _ ht
  rw [decide_eq_true h0, Bool.true_and, show ((k : Int)).toNat = k from rfl, can_end hs ht] at hv
  have h5 : n ≤ 5 := by have := setB_len hs; rw [HL.out] at this; exact this
  obtain ⟨us, hus⟩ : ∃ us, us = endOf ts k t := ⟨_, rfl⟩
  have hul : us.length = n := by rw [hus, (end_last ht).2.2, HL.out]
  have hsu : setB us = true := by rw [hus, set_perm (end_perm ht)]; exact hs
  rw [← hus, HL.out, ← hul] at hv
  have HV := Lib.hid hv
  have hu5 : us.length ≤ 5 := by omega
  have hu0 : 1 ≤ us.length := by omega
  clear hul
  have HT := Lib.hid ht
  have HU : Hid (us = ts.eraseIdx k ++ [t]) := hus
  have i1 : (k : Int) < (n : Int) := h1
  clear hv ht hs hus
  have hel : (ts.eraseIdx k).length = n - 1 := by rw [List.length_eraseIdx, if_pos (by rw [HL.out]; exact hk), HL.out]
  have HEL := Lib.hid hel
  clear hel
  go_enter Try.func81, Try.ntmps81
  go_wp2_with fail
  refine (iHas_is _ _ n c ts (k : Int) H.out hn true HH.out).mono ?_
  rintro e w1 ⟨rfl, hb⟩
  have HB1 := Lib.hid hb
  have hsz := hb.size
  have H1 := Lib.hid ((H.out.below hb).more hb.size)
  have hbl1 : bb < w1.heap.size := by omega
  have C1 := Tks.get H1.out HT.out
  obtain ⟨lo, hi', du, ev, cr⟩ := t
  obtain ⟨c0, c1, c2, c3, c4⟩ := C1.2
  dsimp only at c0 c1 c2 c3 c4
  have hS0 : w1.cell? ⟨bb, oo + k * 5, none⟩ = some (.int .i64 lo) ∧ w1.cell? ⟨bb, oo + k * 5 + 1, none⟩ = some (.int .i64 hi') ∧ w1.cell? ⟨bb, oo + k * 5 + 2, none⟩ = some (.int .i64 du) ∧ w1.cell? ⟨bb, oo + k * 5 + 3, none⟩ = some (.int .i64 ev) ∧ w1.cell? ⟨bb, oo + k * 5 + 4, none⟩ = some (.bool cr) := ⟨c0, c1, c2, c3, c4⟩
  clear hb C1
  go_wp2
  go_region_held3? (fun W => W.cell? ⟨bb, oo + k * 5, none⟩ = some (.int .i64 lo) ∧ W.cell? ⟨bb, oo + k * 5 + 1, none⟩ = some (.int .i64 hi') ∧ W.cell? ⟨bb, oo + k * 5 + 2, none⟩ = some (.int .i64 du) ∧ W.cell? ⟨bb, oo + k * 5 + 3, none⟩ = some (.int .i64 ev) ∧ W.cell? ⟨bb, oo + k * 5 + 4, none⟩ = some (.bool cr)) (first | with_reducible exact hS4 | with_reducible exact hS2 | with_reducible exact five_alloc hS2 _ | with_reducible exact hS0 | with_reducible exact five_alloc hS0 _ | with_reducible exact five_drew (five_alloc hS0 _) | with_reducible exact five_drew hS0)
    ((first
      | (go_at_call 80; refine (iWithoutT_is _ (some ⟨bb, oo, none⟩) n c ts k ?_ (by omega) hnc hk).mono ?_; exact tks_to H1.out (by repeat (first | with_reducible exact Below.refl w1.heap.size w1 | with_reducible refine Below.drew ?_ | with_reducible refine bl_drewN ?_ _ | with_reducible refine bl_alloc ?_ _)); rintro e w2 ⟨A2, c2, rfl, ho2, hb2⟩; have HB2 := Lib.hid (show Below w1.heap.size w1 w2 from bl_trans (by repeat (first | with_reducible exact Below.refl w1.heap.size w1 | with_reducible refine Below.drew ?_ | with_reducible refine bl_drewN ?_ _ | with_reducible refine bl_alloc ?_ _)) hb2); have hS2 : w2.cell? ⟨bb, oo + k * 5, none⟩ = some (.int .i64 lo) ∧ w2.cell? ⟨bb, oo + k * 5 + 1, none⟩ = some (.int .i64 hi') ∧ w2.cell? ⟨bb, oo + k * 5 + 2, none⟩ = some (.int .i64 du) ∧ w2.cell? ⟨bb, oo + k * 5 + 3, none⟩ = some (.int .i64 ev) ∧ w2.cell? ⟨bb, oo + k * 5 + 4, none⟩ = some (.bool cr) := tk_five (w' := w2) (Tks.get (tks_to H1.out HB2.out) HT.out).2; have HO2 := Lib.hid (own_more ho2 (by simp) : Own w2 w1.heap.size (.slice A2 (ts.eraseIdx k).length c2) (ts.eraseIdx k)); have HR2 : Hid (w2.ownsRow w1.heap.size 36 5 (.slice A2 (ts.eraseIdx k).length c2) (ts.eraseIdx k).length ((ts.eraseIdx k).flatMap Tk.cells)) := HO2.out; have HC2 := Lib.hid hb2; have hs2 := HB2.out.size; clear hb2 ho2)
      | (have uu := HO2; clear uu; refine step_append_own rfl (.tmp 12) (.tmp 17) 23 rfl w1.heap.size 36 i0 _ 5 40 Try.underlying23 hi hz0 hz1 hz2 rfl (by decide) (.slice A2 (ts.eraseIdx k).length c2) (ts.eraseIdx k).length ((ts.eraseIdx k).flatMap Tk.cells) rfl (by first | with_reducible exact HR2.out | with_reducible exact World.ownsRow.alloc HR2.out _) _ 1 1 (Tk.cells ⟨lo, hi', du, ev, cr⟩) rfl rfl (by first | with_reducible exact cell_new5 w2 ⟨lo, hi', du, ev, cr⟩ _ | exact news_kept HC2.out (news_drew (cell_new5_at w1 ⟨lo, hi', du, ev, cr⟩ _ w1.heap.size rfl)) (by simp)) (by intro u hu; exact cells_one [⟨lo, hi', du, ev, cr⟩] u (by simpa using hu)) (by have := HEL.out; unfold maxLen; omega) (by have := HEL.out; omega) (by first | omega | (simp; omega)) ?_; intro v4 w4 hown4 hgrow4 _; have HO4 := Lib.hid (show Own w4 w1.heap.size v4 us from by rw [HU.out]; exact Own.snoc hown4); have HB4 := Lib.hid (show Below w1.heap.size w1 w4 from (by repeat (first | with_reducible exact HB2.out | with_reducible refine bl_alloc ?_ _) : Below w1.heap.size w1 _).grown hgrow4 (by first | omega | (simp; omega)) (fun q e => (World.ownsRow.lt HO2.out q e).1)); have hS4 : w4.cell? ⟨bb, oo + k * 5, none⟩ = some (.int .i64 lo) ∧ w4.cell? ⟨bb, oo + k * 5 + 1, none⟩ = some (.int .i64 hi') ∧ w4.cell? ⟨bb, oo + k * 5 + 2, none⟩ = some (.int .i64 du) ∧ w4.cell? ⟨bb, oo + k * 5 + 3, none⟩ = some (.int .i64 ev) ∧ w4.cell? ⟨bb, oo + k * 5 + 4, none⟩ = some (.bool cr) := tk_five (w' := w4) (Tks.get (tks_to H1.out HB4.out) HT.out).2; clear hown4 hgrow4)))
  all_goals (
    obtain ⟨A5, c5, rfl⟩ := HO4.out.form
    have hu1 : (us.length : Int) - 1 = ((us.length - 1 : Nat) : Int) := by omega
    go_wp2_with fail
    refine (iHoldsAt_is w4 A5 _ c5 us (us.length - 1) HO4.out.reads.2 (by omega) (own_le HO4.out) (by omega) b HV.out).mono ?_
    rintro e w6 ⟨rfl, hb6⟩
    have HB6 := Lib.hid (bl_trans HB1.out (bl_trans HB4.out hb6))
    clear hb6
    go_wp2
    go_ret
    exact ⟨rfl, HB6.out⟩)
end

section
/- Contracts of the program's lastThatCanBeLast and AssignOrder. Nothing that was there is written. -/
open Go.RowKit
set_option linter.unusedVariables false

def lastO (us : List Tk) : Option Nat := (List.range us.length).reverse.find? fun i => canL us i
theorem last_pick (ts : List Tk) (L : List Nat) : lastO (putN ts L) = pickL ts L := by unfold lastO pickL; rw [put_len]
theorem last_none {us : List Tk} {n : Nat} (hl : us.length = n) (h : ∀ j, 0 ≤ j → j < n → canL us j = false) : lastO us = none := by
  unfold lastO
  rw [List.find?_eq_none]
  intro j hj
  rw [h j (Nat.zero_le _) (by rw [← hl]; simpa using hj)]
  decide
theorem last_some {us : List Tk} {n j : Nat} (hl : us.length = n) (hj : j < n) (hc : canL us j = true) (h : ∀ i, j + 1 ≤ i → i < n → canL us i = false) : lastO us = some j := by
  subst hl
  exact find_rev.2 ⟨hj, hc, fun i h1 h2 => h i h1 h2⟩
def LastRes (p : Option Nat) (w : World) (e : Ending) (w' : World) : Prop := e = .returned (.tuple #[.int .i64 ((p.getD 0 : Nat) : Int), .bool p.isSome]) ∧ Below w.heap.size w w'

set_option maxRecDepth 100000 in
set_option maxHeartbeats 2000000 in
theorem iLast_is (w : World) (A : Option Addr) (n c : Nat) (us : List Tk) (h : Tks w w.heap.size A n us) (hn : n ≤ 1048576) (hnc : n ≤ c) (p : Option Nat) (hp : lastO us = p) :
    Calls Try.prog 54 #[.slice A n c] w (LastRes p w) := by
  have H := Lib.hid h
  have HL := Lib.hid h.len
  have HP := Lib.hid hp
  clear h hp
  go_enter Try.func54, Try.ntmps54
  go_wp2
  go_loopw [4] (fun i wr => ∃ (k : Nat) (z : Int), k ≤ n ∧ z = (k : Int) - 1 ∧ i = .int .i64 z ∧ Hid (∀ j, k ≤ j → j < n → canL us j = false) ∧ Below w.heap.size w wr) (fun i _ => (intOf i + 1).toNat)
  case atStart => exact ⟨n, _, Nat.le_refl _, rfl, by go_num, (show ∀ j, n ≤ j → j < n → _ from fun j h1 h2 => by omega), Below.refl _ _⟩
  case round =>
    obtain ⟨k, z, hk, hz, rfl, HA, hb⟩ := hrel
    have HB := Lib.hid hb
    clear hb
    by_cases h0 : k = 0
    · subst h0
      obtain rfl : z = -1 := by omega
      obtain rfl : p = none := by rw [← HP.out]; exact last_none HL.out HA.out
      clear hz
      go_wp2
      go_ret2
      exact ⟨rfl, HB.out⟩
    · obtain ⟨j, rfl⟩ : ∃ j, k = j + 1 := ⟨k - 1, by omega⟩
      obtain rfl : z = (j : Int) := by omega
      clear hz h0
      have hj : (0 : Int) ≤ (j : Int) := by omega
      obtain ⟨q, hq⟩ : ∃ q, canL us j = q := ⟨_, rfl⟩
      have HQ := Lib.hid hq
      have HC : Hid ((decide ((0 : Int) ≤ (j : Int)) && canL us ((j : Int)).toNat) = q) := by
        show _ = _
        rw [decide_eq_true hj, Bool.true_and]
        exact hq
      clear hq
      go_wp2_with fail
      refine (iCan_is wr A n c us (j : Int) (tks_to H.out HB.out) hn hnc q HC.out).mono ?_
      rintro e w2 ⟨rfl, hb2⟩
      have HB2 := Lib.hid (bl_trans HB.out hb2)
      clear hb2
      cases q
      · go_wp2
        go_roundw
        case rel =>
          refine ⟨j, (j : Int) - 1, by omega, rfl, by go_num, ?_, HB2.out⟩
          show ∀ i, j ≤ i → i < n → _
          intro i h1 h2
          rcases Nat.lt_or_ge j i with h | h
          · exact HA.out i h h2
          · obtain rfl : i = j := by omega
            exact HQ.out
        case measure => simp [intOf]
      · obtain rfl : p = some j := by rw [← HP.out]; exact last_some HL.out (by omega) HQ.out HA.out
        go_wp2
        go_ret2
        exact ⟨rfl, HB2.out⟩

theorem ord_put {l x : Nat} {acc : List Nat} : (List.replicate (l + 1) (0 : Int) ++ toZ acc).set l (x : Int) = List.replicate l 0 ++ toZ (x :: acc) := by
  rw [List.replicate_succ', List.append_assoc, List.set_append_right _ _ (by simp)]
  simp [toZ]
theorem asg_end {ts : List Tk} {acc : List Nat} {r : Option (List Nat)} (h : asg ts ([] : List Nat).length [] acc = r) : r = some acc := h.symm

set_option maxRecDepth 100000 in
set_option maxHeartbeats 4000000 in
theorem iAssign_is (w : World) (A : Option Addr) (n c : Nat) (ts : List Tk) (h : Tks w w.heap.size A n ts) (hn : n ≤ 1048576) (r : Option (List Nat)) (hr : assignOf ts = r) :
    Calls Try.prog 19 #[.slice A n c] w (ZsRes2 (asgR r) r.isSome w) := by
  obtain ⟨i0, hi, hz0, hz1, hz2⟩ := info_parts info_int
  have H := Lib.hid h
  have HL := Lib.hid h.len
  clear h
  cases hs : setB ts
  · obtain rfl : r = none := by rw [← hr]; unfold assignOf; rw [hs]; rfl
    have HS := Lib.hid hs
    clear hr hs
    go_enter Try.func19, Try.ntmps19
    go_wp2_with fail
    refine (iSetValid_any _ A n c ts H.out hn).mono ?_
    rintro e w1 ⟨rfl, hb1⟩
    rw [HS.out]
    have HB1 := Lib.hid hb1
    clear hb1
    go_wp2
    go_ret2
    exact ⟨none, 0, rfl, ⟨rfl, .inl ⟨rfl, rfl⟩⟩, HB1.out⟩
  have h5 := setB_len hs
  rw [HL.out] at h5
  have hr' : asg ts n (List.range n) [] = r := by rw [← hr]; unfold assignOf; rw [if_pos hs, HL.out]
  have HR := Lib.hid hr'
  have HS := Lib.hid hs
  clear hr hr' hs
  go_enter Try.func19, Try.ntmps19
  go_wp2_with fail
  refine (iSetValid_any _ A n c ts H.out hn).mono ?_
  rintro e w1 ⟨rfl, hb1⟩
  rw [HS.out]
  have HB1 := Lib.hid hb1
  have hs1 := hb1.size
  clear hb1
  go_wp2_with (at_make; refine wpList_make_full _ rfl _ _ 25 rfl w1.heap.size 3 i0 _ 1 Try.underlying25 hi hz0 hz1 .i64 .i64 _ _ n rfl rfl rfl rfl (by rw [hz2]; omega) (by unfold maxLen; omega) (Nat.le_refl _) ?_; intro w2 hown0 hgrow0; have HO0 : Hid (OwnZ w2 w1.heap.size (.slice (some ⟨w1.heap.size, 0, none⟩) n n) (List.replicate n 0)) := (show w2.ownsRow _ _ _ _ _ _ from by rw [← made_int, List.length_replicate]; exact hown0); have HB2 := Lib.hid ((Below.refl _ w1).grown hgrow0 (Nat.le_refl _) (fun k e => by cases e)); have hlt2 : w1.heap.size < w2.heap.size := (World.ownsRow.lt hown0 w1.heap.size rfl).2; clear hown0 hgrow0)
  refine (iFirst_is w2 n h5).mono ?_
  rintro e w3 ⟨rfl, ho3, hb3⟩
  have HO3 := Lib.hid (ho3.less (show w1.heap.size + 1 ≤ w2.heap.size from hlt2))
  have HO1 := Lib.hid (HO0.out.below hb3)
  have HB3 := Lib.hid (bl_trans HB1.out (bl_trans HB2.out hb3))
  have hgw : w.heap.size ≤ w1.heap.size := hs1
  clear ho3 hb3 HO0
  go_wp2
  go_loopw [5, 6] (fun v i wr => ∃ (L acc : List Nat) (A5 : Option Addr) (c5 : Nat) (z : Int), v = .slice A5 L.length c5 ∧ z = (L.length : Int) - 1 ∧ i = .int .i64 z ∧ acc.length + L.length = n ∧ Hid (InL ts L) ∧ Hid (asg ts L.length L acc = r) ∧ OwnZ wr (w1.heap.size + 1) v (toZ L) ∧ OwnZ wr w1.heap.size (.slice (some ⟨w1.heap.size, 0, none⟩) n n) (List.replicate L.length 0 ++ toZ acc) ∧ Below w.heap.size w wr) (fun _ i _ => (intOf i + 1).toNat)
  case atStart =>
    exact ⟨List.range n, [], some ⟨w2.heap.size, 0, none⟩, n, (n : Int) - 1, by rw [List.length_range], by rw [List.length_range], by go_num, by simp, (fun i hi => by rw [HL.out]; exact List.mem_range.1 hi), (by show _ = _; rw [List.length_range]; exact HR.out), HO3.out, (by rw [List.length_range]; have := HO1.out; simpa [toZ] using this), HB3.out⟩
  case round =>
    obtain ⟨L, acc, A5, c5, z, rfl, hz, rfl, hL, HI, HA, ho5, ho4, hb⟩ := hrel
    have HO5 := Lib.hid ho5
    have HO4 := Lib.hid ho4
    have HB := Lib.hid hb
    have hszw := hb.size
    clear ho5 ho4 hb
    by_cases h0 : L.length = 0
    · have hLn : L = [] := List.eq_nil_of_length_eq_zero h0
      subst hLn
      obtain rfl := asg_end HA.out
      obtain rfl : z = -1 := by rw [hz]; rfl
      have HO6 : Hid (OwnZ wr w.heap.size (.slice (some ⟨w1.heap.size, 0, none⟩) n n) (toZ acc)) := by
        have h := HO4.out
        rw [List.length_nil, List.replicate_zero, List.nil_append] at h
        exact h.less hgw
      have hacc : (toZ acc).length = n := by rw [toZ_len]; simpa using hL
      have HAC := Lib.hid hacc
      clear hz hL h0 hacc
      go_wp2
      go_ret2
      exact ⟨some ⟨w1.heap.size, 0, none⟩, n, by show _ = Ending.returned (.tuple #[.slice _ (toZ acc).length n, _]); rw [HAC.out]; rfl, by show OwnZ _ _ (.slice _ (toZ acc).length n) (toZ acc); rw [HAC.out]; exact HO6.out, HB.out⟩
    · obtain ⟨l, hl⟩ : ∃ l, L.length = l + 1 := ⟨L.length - 1, by omega⟩
      obtain rfl : z = (l : Int) := by rw [hz, hl]; omega
      have HLL := Lib.hid hl
      have hln : (l : Int) < (n : Int) := by omega
      have hZ5 : Hid (Zs wr wr.heap.size A5 L.length (toZ L)) := by
        have h := HO5.out
        rw [← toZ_len L] at h ⊢
        exact h.reads
      have hl6 : L.length ≤ 100 := by omega
      have HLn : Hid (acc.length + L.length = n) := hL
      have hc5 : L.length ≤ c5 := by
        have h := HO5.out
        rw [← toZ_len L] at h
        have := h.le
        rwa [toZ_len] at this
      have hl50 : L.length ≤ 50 := by omega
      clear hz h0 hl hL
      go_wp2_with fail
      refine (iTasksAt_is wr A n c ts A5 L.length c5 L (tks_to H.out HB.out) hZ5.out HI.out hl6).mono ?_
      rintro e w4 ⟨A6, c6, rfl, ho6, hb6⟩
      have HB6 := Lib.hid hb6
      have HO6 := Lib.hid ho6
      clear ho6 hb6
      obtain ⟨p, hp⟩ : ∃ p, lastO (putN ts L) = p := ⟨_, rfl⟩
      have HP := Lib.hid hp
      have HPK : Hid (pickL ts L = p) := (last_pick ts L).symm.trans hp
      clear hp
      go_wp2_with fail
      refine (iLast_is w4 A6 _ c6 (putN ts L) HO6.out.reads.2 (by rw [put_len]; omega) (own_le HO6.out) p HP.out).mono ?_
      rintro e w5 ⟨rfl, hb7⟩
      have HB7 := Lib.hid (bl_trans HB6.out hb7)
      have hs7 := HB7.out.size
      clear hb7
      cases p with
      | none =>
        obtain rfl : r = none := asg_stop HA.out (by have := HLL.out; omega) HPK.out
        go_wp2
        go_ret2
        exact ⟨none, 0, rfl, ⟨rfl, .inl ⟨rfl, rfl⟩⟩, bl_trans HB.out HB7.out⟩
      | some i =>
        have hil : i < L.length := (pick_some HPK.out).1
        obtain ⟨x, hx⟩ : ∃ x, L[i]? = some x := ⟨L[i], List.getElem?_eq_getElem hil⟩
        have HG := Lib.hid (asg_go HA.out hx HPK.out)
        have HZ7 : Hid (Zs w5 w5.heap.size A5 L.length (toZ L)) := (hZ5.out.below HB7.out).more hs7
        obtain ⟨b5, o5, rfl, hb5, g0⟩ := HZ7.out.at_ i _ (toZ_get hx)
        have HX := Lib.hid hx
        have hili : (i : Int) < (L.length : Int) := by omega
        have HO8 := Lib.hid (HO5.out.below HB7.out)
        have HO9 : Hid (OwnZ w5 w1.heap.size (.slice (some ⟨w1.heap.size, 0, none⟩) n n) (List.replicate L.length 0 ++ toZ acc)) := HO4.out.below HB7.out
        have hfz := HO9.out.frozen l
        have hyl : (List.replicate L.length (0 : Int) ++ toZ acc).length = n := by simp [toZ_len]; have := HLn.out; omega
        obtain ⟨y, hy⟩ : ∃ y, (List.replicate L.length (0 : Int) ++ toZ acc)[l]? = some y := ⟨_, List.getElem?_eq_getElem (by omega)⟩
        have hrd : Zs w5 w5.heap.size (some ⟨w1.heap.size, 0, none⟩) n (List.replicate L.length (0 : Int) ++ toZ acc) := by
          have ho' : OwnZ w5 w1.heap.size (.slice (some ⟨w1.heap.size, 0, none⟩) (List.replicate L.length (0 : Int) ++ toZ acc).length n) (List.replicate L.length (0 : Int) ++ toZ acc) := by rw [hyl]; exact HO9.out
          have := ho'.reads
          rwa [hyl] at this
        have d0 := (hrd.get hy).2
        rw [Nat.zero_add] at d0
        have HPT : Hid ((List.replicate L.length (0 : Int) ++ toZ acc).set l (x : Int) = List.replicate l 0 ++ toZ (x :: acc)) := by show _ = _; rw [HLL.out]; exact ord_put
        have hgl : w1.heap.size < w5.heap.size := HO9.out.lt.2
        have HST := Lib.hid (HO9.out.put l (x : Int))
        have HSB : Hid (Below w.heap.size w (w5.setCell ⟨w1.heap.size, l, none⟩ (.int .i64 (x : Int)))) := bl_set (bl_trans HB.out HB7.out) (by dsimp only; omega) _
        have HSO : Hid (OwnZ (w5.setCell ⟨w1.heap.size, l, none⟩ (.int .i64 (x : Int))) (w1.heap.size + 1) (.slice (some ⟨b5, o5, none⟩) L.length c5) (toZ L)) := HO8.out.kept (gb_set (World.grownBy.refl w5 (some w1.heap.size)) (.inl rfl) _) (fun k e => by cases e; omega)
        clear hx hy hyl hrd HZ7
        have hsl : (w5.setCell ⟨w1.heap.size, l, none⟩ (.int .i64 (x : Int))).heap.size = w5.heap.size := by simp [World.setCell]
        have HSL := Lib.hid hsl
        clear hsl
        have HSZ : Hid (Zs (w5.setCell ⟨w1.heap.size, l, none⟩ (.int .i64 (x : Int))) (w5.setCell ⟨w1.heap.size, l, none⟩ (.int .i64 (x : Int))).heap.size (some ⟨b5, o5, none⟩) L.length (toZ L)) := by
          have h := HSO.out
          rw [← toZ_len L] at h ⊢
          exact h.reads
        go_wp2_with fail
        refine (iWithoutZ_is _ (some ⟨b5, o5, none⟩) L.length c5 (toZ L) i HSZ.out hl50 hc5 hil).mono ?_
        rintro e w8 ⟨A8, c8, rfl, ho8, hb8⟩
        have hel : (toZ L).eraseIdx i = toZ (L.eraseIdx i) := by rw [toZ_erase, ← erase_two]
        have hll : (L.eraseIdx i).length = l := by rw [List.length_eraseIdx, if_pos hil, HLL.out]; rfl
        rw [hel] at ho8
        have HEL := Lib.hid hel
        have HE8 := Lib.hid hll
        have hzl : ((toZ L).eraseIdx i).length = l := by rw [hel, toZ_len, hll]
        have HZL := Lib.hid hzl
        have HO10 : Hid (OwnZ w8 (w1.heap.size + 1) (.slice A8 (toZ (L.eraseIdx i)).length c8) (toZ (L.eraseIdx i))) := ho8.less (by rw [HSL.out]; omega)
        have HB8 := Lib.hid (bl_trans HSB.out hb8)
        have HO11 := Lib.hid (HST.out.below hb8)
        have HIE : Hid (InL ts (L.eraseIdx i)) := fun j hj => HI.out j (List.mem_of_mem_eraseIdx hj)
        clear ho8 hb8 hel hll hzl
        rw [HZL.out]
        rw [HPT.out] at HO11
        rw [toZ_len, HE8.out] at HO10
        go_wp2
        go_roundw
        case rel =>
          exact ⟨L.eraseIdx i, x :: acc, A8, c8, (l : Int) - 1, by rw [HE8.out], by rw [HE8.out], by go_num, (by rw [HE8.out, List.length_cons]; have := HLn.out; have := HLL.out; omega), HIE, HG, HO10.out, (by rw [HE8.out]; exact HO11.out), HB8.out⟩
        case measure => simp [intOf]
end

section
/- Contracts of the program's OrderValid and PutOrder. Nothing that was there is written. -/
open Go.RowKit
set_option linter.unusedVariables false

theorem seen_five : (seenL [] 5).toArray = #[Value.bool false, .bool false, .bool false, .bool false, .bool false] := rfl
theorem seen_start (w : World) : Blk (w.alloc (.cells #[Value.bool false, .bool false, .bool false, .bool false, .bool false] 65)) w.heap.size 65 (seenL [] 5).toArray := by
  rw [seen_five]; exact heap_alloc_new w _

set_option maxRecDepth 100000 in
set_option maxHeartbeats 4000000 in
theorem iOrdValid_is (w : World) (A : Option Addr) (n c : Nat) (ts : List Tk) (A2 : Option Addr) (n2 c2 : Nat) (zs : List Int) (h : Tks w w.heap.size A n ts) (hn : n ≤ 1048576) (h2 : Zs w w.heap.size A2 n2 zs) (b : Bool) (hb : (setB ts && ordB zs ts.length) = b) :
    Calls Try.prog 29 #[.slice A n c, .slice A2 n2 c2] w fun e w' => e = .returned (.bool b) ∧ Below w.heap.size w w' := by
  have H := Lib.hid h
  have H2 := Lib.hid h2
  have HL := Lib.hid h.len
  have HL2 := Lib.hid h2.len
  clear h h2
  cases hs : setB ts
  · obtain rfl : b = false := by rw [← hb, hs]; rfl
    clear hb
    go_enter Try.func29, Try.ntmps29
    go_wp2_with (go_at_call 30; refine (iSetValid_any _ A n c ts H.out hn).mono ?_; rintro e w1 ⟨rfl, hb1⟩)
    go_ret
    exact ⟨rfl, hb1⟩
  rw [hs, Bool.true_and, HL.out] at hb
  have HBB := Lib.hid hb
  have h5 : n ≤ 5 := by have := setB_len hs; rw [HL.out] at this; exact this
  have HS := Lib.hid hs
  clear hb hs
  by_cases hnm : n2 = n
  · subst hnm
    go_enter Try.func29, Try.ntmps29
    go_wp2_with fail
    refine (iSetValid_any _ A n2 c ts H.out hn).mono ?_
    rintro e w1 ⟨rfl, hb1⟩
    rw [HS.out]
    have HB1 := Lib.hid hb1
    have hsz1 := hb1.size
    clear hb1
    go_wp2
    go_loopw [20] (fun i wr => ∃ k : Nat, k ≤ n2 ∧ i = .int .i64 k ∧ Hid ((∀ z ∈ zs.take k, 0 ≤ z ∧ z < (n2 : Int)) ∧ (zs.take k).Nodup) ∧ Hid (Blk wr w1.heap.size 65 (seenL (zs.take k) 5).toArray) ∧ Below w.heap.size w wr) (fun i _ => n2 - (intOf i).toNat)
    case atStart => exact ⟨0, Nat.zero_le _, rfl, (show _ ∧ _ from ⟨fun z hz => by simp at hz, by simp⟩), seen_start w1, bl_alloc HB1.out _⟩
    case round =>
      obtain ⟨k, hk, rfl, HP, BS, hb⟩ := hrel
      have HB := Lib.hid hb
      have hsz := hb.size
      clear hb
      by_cases hlt : k < n2
      · have hlti : (k : Int) < (n2 : Int) := by omega
        obtain ⟨z, hz⟩ : ∃ z, zs[k]? = some z := ⟨zs[k]'(by rw [HL2.out]; exact hlt), List.getElem?_eq_getElem _⟩
        obtain ⟨bb, o, rfl, hbl, g0⟩ := (H2.out.below HB.out).at_ k z hz
        have hmem : z ∈ zs := List.mem_of_getElem? hz
        have HZ := Lib.hid hz
        have ht : Hid (zs.take (k + 1) = zs.take k ++ [z]) := by show _ = _; rw [List.take_add_one, hz]; rfl
        clear hz
        by_cases hz0 : z < 0
        · obtain rfl : b = false := by
            rw [← HBB.out]
            cases hx : ordB zs n2
            · rfl
            · have := (ordB_iff.1 hx).2.1 z hmem; omega
          go_wp2
          go_ret
          exact ⟨rfl, HB.out⟩
        by_cases hzn : (n2 : Int) ≤ z
        · obtain rfl : b = false := by
            rw [← HBB.out]
            cases hx : ordB zs n2
            · rfl
            · have := (ordB_iff.1 hx).2.1 z hmem; omega
          go_wp2
          go_ret
          exact ⟨rfl, HB.out⟩
        obtain ⟨x, rfl⟩ := Int.eq_ofNat_of_zero_le (show 0 ≤ z by omega)
        have hxn : x < n2 := by omega
        have hxi : (x : Int) < (n2 : Int) := by omega
        have hx5 : (x : Int) < 5 := by omega
        have cx : wr.cell? ⟨w1.heap.size, x, none⟩ = some (.bool ((zs.take k).contains (x : Int))) := (BS.out.cell x).trans (seen_get (by omega))
        have fx := BS.out.frozen x
        cases hc : (zs.take k).contains (x : Int)
        · rw [hc] at cx
          have HP' : Hid ((∀ z ∈ zs.take (k + 1), 0 ≤ z ∧ z < (n2 : Int)) ∧ (zs.take (k + 1)).Nodup) := by
            show _ ∧ _
            rw [ht.out]
            refine ⟨fun z hz => ?_, ?_⟩
            · rcases List.mem_append.1 hz with h | h
              · exact HP.out.1 z h
              · simp at h; subst h; omega
            · rw [List.nodup_append]
              refine ⟨HP.out.2, by simp, fun a ha b hb => ?_⟩
              simp at hb
              subst hb
              rintro rfl
              have : (zs.take k).contains (x : Int) = true := by simpa using ha
              rw [this] at hc; cases hc
          have BS' : Hid (Blk (wr.setCell ⟨w1.heap.size, x, none⟩ (.bool true)) w1.heap.size 65 (seenL (zs.take (k + 1)) 5).toArray) := by
            show Blk _ _ _ _
            rw [← seen_set HZ.out]; exact BS.out.set_ x (.bool true)
          clear hc
          go_wp2
          go_roundw
          case rel => exact ⟨k + 1, by omega, by go_num, HP', BS', bl_set HB.out (by dsimp only; omega) _⟩
          case measure => simp [intOf]; omega
        · obtain rfl : b = false := by
            rw [← HBB.out]
            cases hx : ordB zs n2
            · rfl
            · have hnd := (ordB_iff.1 hx).2.2
              rw [← List.take_append_drop (k + 1) zs, ht.out] at hnd
              have := (List.nodup_append.1 (List.nodup_append.1 hnd).1).2.2 (x : Int) (by simpa using hc) (x : Int) (by simp)
              exact absurd rfl this
          rw [hc] at cx
          clear hc
          go_wp2
          go_ret
          exact ⟨rfl, HB.out⟩
      · obtain rfl : k = n2 := by omega
        have hlti : ¬ (k : Int) < (k : Int) := by omega
        obtain rfl : b = true := by
          rw [← HBB.out, ordB_iff]
          have h := HP.out
          rw [List.take_of_length_le (by rw [HL2.out]; exact Nat.le_refl _)] at h
          exact ⟨HL2.out, h.1, h.2⟩
        go_wp2
        go_ret
        exact ⟨rfl, HB.out⟩
  · have hno : b = false := by
      rw [← HBB.out]
      unfold ordB
      rw [HL2.out, decide_eq_false hnm]; rfl
    subst hno
    have hni : ¬ (n2 : Int) = (n : Int) := by omega
    go_enter Try.func29, Try.ntmps29
    go_wp2_with fail
    refine (iSetValid_any _ A n c ts H.out hn).mono ?_
    rintro e w1 ⟨rfl, hb1⟩
    rw [HS.out]
    have HB1 := Lib.hid hb1
    clear hb1
    go_wp2
    go_ret
    exact ⟨rfl, HB1.out⟩

set_option maxHeartbeats 1000000 in
theorem iPutOrder_is (w : World) (A : Option Addr) (n c : Nat) (ts : List Tk) (A2 : Option Addr) (n2 c2 : Nat) (zs : List Int) (h : Tks w w.heap.size A n ts) (hn : n ≤ 1048576) (h2 : Zs w w.heap.size A2 n2 zs) (us : List Tk) (b : Bool)
    (hb : (setB ts && ordB zs ts.length) = b) (hu : us = if b then putN ts (zs.map Int.toNat) else []) :
    Calls Try.prog 23 #[.slice A n c, .slice A2 n2 c2] w (LsRes2 us b w) := by
  have H := Lib.hid h
  have H2 := Lib.hid h2
  have HBB := Lib.hid hb
  clear h h2
  cases b
  · obtain rfl : us = [] := by rw [hu]; rfl
    clear hb hu
    go_enter Try.func23, Try.ntmps23
    go_wp2_with (go_at_call 29; refine (iOrdValid_is _ A n c ts A2 n2 c2 zs H.out hn H2.out false HBB.out).mono ?_; rintro e w1 ⟨rfl, hb1⟩)
    go_ret2
    exact ⟨none, 0, rfl, Own.nil_ _ _, hb1⟩
  obtain rfl : us = putN ts (zs.map Int.toNat) := by rw [hu]; rfl
  rw [Bool.and_eq_true] at hb
  obtain ⟨o, rfl, ho1, ho2, ho3⟩ := ord_nat hb.2
  have hoz : (toZ o).map Int.toNat = o := by
    unfold toZ
    rw [List.map_map]
    conv => rhs; rw [← List.map_id o]
    exact List.map_congr_left fun x _ => rfl
  have h5 := setB_len hb.1
  have HI : Hid (InL ts o) := ho2
  have HZ := Lib.hid hoz
  clear hb hu hoz
  go_enter Try.func23, Try.ntmps23
  go_wp2_with fail
  refine (iOrdValid_is _ A n c ts A2 n2 c2 (toZ o) H.out hn H2.out true HBB.out).mono ?_
  rintro e w1 ⟨rfl, hb1⟩
  have HB1 := Lib.hid hb1
  clear hb1
  go_wp2_with fail
  refine (iTasksAt_is w1 A n c ts A2 n2 c2 o ((H.out.below HB1.out).more HB1.out.size) ((H2.out.below HB1.out).more HB1.out.size) HI.out (by omega)).mono ?_
  rintro e w2 ⟨A3, c3, rfl, ho, hb2⟩
  have HB2 := Lib.hid (bl_trans HB1.out hb2)
  have HO2 := Lib.hid (own_more ho HB1.out.size)
  clear hb2 ho
  go_wp2
  go_ret2
  rw [HZ.out]
  exact ⟨A3, c3, rfl, HO2.out, HB2.out⟩
end

end Go.Proofs.Ytgoblabcggbfjaa
