import Derived.Deep.QuietTactic
import Derived.BigQuiet
import Derived.LoopTactic
import Derived.Deep.RegionHeld3
import Derived.Test.YtgponahmkjohiabGreatDoorT2ND
namespace Go.Proofs.YtgponahmkjohiabGreatDoor
section
open Go.RowKit
set_option linter.unusedVariables false
def BRes (b : Bool) (w : World) (e : Ending) (w' : World) : Prop := e = .returned (.bool b) ∧ Below w.heap.size w w'
theorem no_of {b : Bool} (h : b = true → False) : b = false := by
  cases b
  · rfl
  · exact (h rfl).elim
theorem tk_get {ts : List Tk} {z : Int} (h0 : 0 ≤ z) (h1 : z < (ts.length : Int)) : ∃ (k : Nat) (t : Tk), z = (k : Int) ∧ k < ts.length ∧ ts[k]? = some t ∧ tkOf ts z = t := by
  have hk : z.toNat < ts.length := by omega
  refine ⟨z.toNat, ts[z.toNat], by omega, hk, List.getElem?_eq_getElem hk, ?_⟩
  unfold tkOf; simp [List.getD, List.getElem?_eq_getElem hk]
set_option maxHeartbeats 2000000 in
theorem sJob_is (w : World) (A : Option Addr) (n c : Nat) (ts : List Tk) (h : Tks w w.heap.size A n ts) (j : Jb) (b : Bool) (hb : jobB ts j = b) :
    Calls Tryz.prog 100 #[.slice A n c, j.val] w (BRes b w) := by
  have H := Lib.hid h
  have HL := Lib.hid h.len
  clear h
  unfold Jb.val
  obtain ⟨ta, tm, ne⟩ := j
  dsimp only
  by_cases h1 : 0 ≤ ta
  rotate_left
  · obtain rfl : b = false := by rw [← hb]; exact no_of fun hx => by have := jobB_iff.1 hx; have := HL.out; dsimp only at *; omega
    have d := decide_eq_false h1
    clear hb
    have cJ := (Blk.new w 46 #[.int .i64 ta, .int .i64 tm, .int .i64 ne]).cell
    go_enter Tryz.func100, Tryz.ntmps100
    go_wp2
    (try (go_quiet (fail); go_wp2))
    go_ret
    exact ⟨rfl, (by repeat (first | exact Below.refl _ _ | refine bl_drewN ?_ _ | refine Below.drew ?_ | refine bl_alloc ?_ _))⟩
  have dh1 := decide_eq_true h1
  by_cases h2 : ta < (n : Int)
  rotate_left
  · obtain rfl : b = false := by rw [← hb]; exact no_of fun hx => by have := jobB_iff.1 hx; have := HL.out; dsimp only at *; omega
    have d := decide_eq_false h2
    clear hb
    have cJ := (Blk.new w 46 #[.int .i64 ta, .int .i64 tm, .int .i64 ne]).cell
    go_enter Tryz.func100, Tryz.ntmps100
    go_wp2
    (try (go_quiet (fail); go_wp2))
    go_ret
    exact ⟨rfl, (by repeat (first | exact Below.refl _ _ | refine bl_drewN ?_ _ | refine Below.drew ?_ | refine bl_alloc ?_ _))⟩
  have dh2 := decide_eq_true h2
  by_cases h3 : 0 ≤ tm
  rotate_left
  · obtain rfl : b = false := by rw [← hb]; exact no_of fun hx => by have := jobB_iff.1 hx; have := HL.out; dsimp only at *; omega
    have d := decide_eq_false h3
    clear hb
    have cJ := (Blk.new w 46 #[.int .i64 ta, .int .i64 tm, .int .i64 ne]).cell
    go_enter Tryz.func100, Tryz.ntmps100
    go_wp2
    (try (go_quiet (fail); go_wp2))
    go_ret
    exact ⟨rfl, (by repeat (first | exact Below.refl _ _ | refine bl_drewN ?_ _ | refine Below.drew ?_ | refine bl_alloc ?_ _))⟩
  have dh3 := decide_eq_true h3
  by_cases h4 : tm ≤ 200
  rotate_left
  · obtain rfl : b = false := by rw [← hb]; exact no_of fun hx => by have := jobB_iff.1 hx; have := HL.out; dsimp only at *; omega
    have d := decide_eq_false h4
    clear hb
    have cJ := (Blk.new w 46 #[.int .i64 ta, .int .i64 tm, .int .i64 ne]).cell
    go_enter Tryz.func100, Tryz.ntmps100
    go_wp2
    (try (go_quiet (fail); go_wp2))
    go_ret
    exact ⟨rfl, (by repeat (first | exact Below.refl _ _ | refine bl_drewN ?_ _ | refine Below.drew ?_ | refine bl_alloc ?_ _))⟩
  have dh4 := decide_eq_true h4
  by_cases h5 : 1 ≤ ne
  rotate_left
  · obtain rfl : b = false := by rw [← hb]; exact no_of fun hx => by have := jobB_iff.1 hx; have := HL.out; dsimp only at *; omega
    have d := decide_eq_false h5
    clear hb
    have cJ := (Blk.new w 46 #[.int .i64 ta, .int .i64 tm, .int .i64 ne]).cell
    go_enter Tryz.func100, Tryz.ntmps100
    go_wp2
    (try (go_quiet (fail); go_wp2))
    go_ret
    exact ⟨rfl, (by repeat (first | exact Below.refl _ _ | refine bl_drewN ?_ _ | refine Below.drew ?_ | refine bl_alloc ?_ _))⟩
  have dh5 := decide_eq_true h5
  obtain ⟨k, t, rfl, hk, ht, htk⟩ := tk_get h1 (by rw [HL.out]; exact h2)
  obtain ⟨bb, o, rfl, hbl, c0, c1, c2, c3, c4⟩ := H.out.at_ k t ht
  have hne : bb ≠ w.heap.size := Nat.ne_of_lt hbl
  have c1a := fun o' => (World.cell?_alloc_lt w o' ⟨bb, o + k * 5 + 1, none⟩ hbl).trans c1
  have hbv : jobB ts ⟨(k : Int), tm, ne⟩ = decide (ne ≤ t.hi) := by
    unfold jobB
    dsimp only
    rw [htk, decide_eq_true h1, decide_eq_true h3, decide_eq_true h4, decide_eq_true h5, HL.out, decide_eq_true h2]
    rfl
  rw [hbv] at hb
  clear htk ht hbv
  obtain ⟨lo, hi, du, ev, cr⟩ := t
  dsimp only at c1 c1a hb
  clear c0 c2 c3 c4
  subst hb
  have cJ := (Blk.new w 46 #[.int .i64 (k : Int), .int .i64 tm, .int .i64 ne]).cell
  go_enter Tryz.func100, Tryz.ntmps100
  go_wp2
  (try (go_quiet (fail); go_wp2))
  go_ret
  exact ⟨rfl, (by repeat (first | exact Below.refl _ _ | refine bl_drewN ?_ _ | refine Below.drew ?_ | refine bl_alloc ?_ _))⟩
set_option maxHeartbeats 1000000 in
theorem sBef_is (w : World) (a j : Jb) (b : Bool) (hb : befB a j = b) :
    Calls Tryz.prog 101 #[a.val, j.val] w (BRes b w) := by
  unfold Jb.val
  obtain ⟨ta, tm, ne⟩ := a
  obtain ⟨sa, sm, se⟩ := j
  dsimp only
  unfold befB at hb
  dsimp only at hb
  by_cases h1 : tm < sm
  · have d1 := decide_eq_true h1
    rw [d1] at hb
    subst hb
    go_enter Tryz.func101, Tryz.ntmps101
    go_wp2
    go_ret
    exact ⟨rfl, (by repeat (first | exact Below.refl _ _ | refine bl_drewN ?_ _ | refine Below.drew ?_ | refine bl_alloc ?_ _))⟩
  · have d1 := decide_eq_false h1
    rw [d1] at hb
    by_cases h2 : tm = sm
    · have d2 : (tm == sm) = true := by simp; exact h2
      rw [decide_eq_true h2] at hb
      subst hb
      go_enter Tryz.func101, Tryz.ntmps101
      go_wp2
      go_ret
      exact ⟨by simp, (by repeat (first | exact Below.refl _ _ | refine bl_drewN ?_ _ | refine Below.drew ?_ | refine bl_alloc ?_ _))⟩
    · have d2 : (tm == sm) = false := by simp; exact h2
      rw [decide_eq_false h2] at hb
      subst hb
      go_enter Tryz.func101, Tryz.ntmps101
      go_wp2
      go_ret
      exact ⟨rfl, (by repeat (first | exact Below.refl _ _ | refine bl_drewN ?_ _ | refine Below.drew ?_ | refine bl_alloc ?_ _))⟩
end
section
open Go.RowKit
set_option linter.unusedVariables false
theorem blk_own1 {w : World} {B g n : Nat} {e : TypeId} {xs : List Value} (h : w.ownsRow B e 1 (.slice (some ⟨g, 0, none⟩) n n) n xs) : Blk w g e xs.toArray := by
  rcases h.2 with ⟨e0, h0⟩ | ⟨g', cap, cur, e0, _, hg, h1, h2, h3, h4⟩
  · injection e0 with e1; cases e1
  · injection e0 with e1 e2 e3
    injection e1 with e1
    injection e1 with e1
    subst e1 e3
    have hc : cur.toList = xs := by
      rw [List.take_of_length_le (by rw [Array.length_toList, h3]; exact Nat.le_refl _)] at h4
      exact h4
    rw [← hc]
    exact hg
/-- A row of numbers: the first k are z, the others 0. -/
def fillV (n k : Nat) (z : Int) : List Value := (List.range n).map fun (i : Nat) => Value.int .i64 (if i < k then z else 0)
def lastV (n : Nat) (js : List Jb) : List Value := (List.range n).map fun (i : Nat) => Value.int .i64 (lastAt js (i : Int))
theorem made_int (n : Nat) : (madeCells (Value.int .i64 0).cells (n * 1)).toList = fillV n 0 (-20) := by
  unfold madeCells fillV
  rw [Array.toList_map, Array.toList_range, Nat.mul_one]
  refine List.map_congr_left fun j _ => ?_
  show (#[Value.int .i64 0])[j % 1]! = _
  rw [Nat.mod_one]; rfl
theorem fill_set {n k : Nat} {z : Int} (h : k < n) : (fillV n k z).toArray.setIfInBounds k (.int .i64 z) = (fillV n (k + 1) z).toArray := by
  unfold fillV
  simp only [List.setIfInBounds_toArray]
  congr 1
  refine List.ext_getElem? fun j => ?_
  rw [List.getElem?_set]
  by_cases hx : k = j
  · subst hx; simp [h]
  · by_cases hj : j < n
    · simp [hj, hx]
      by_cases h1 : j < k
      · rw [if_pos h1, if_pos (by omega)]
      · rw [if_neg h1, if_neg (by omega)]
    · simp [hj, hx]
theorem fill_all (n : Nat) : fillV n n (-20) = lastV n [] := by
  unfold fillV lastV
  refine List.map_congr_left fun j hj => ?_
  rw [if_pos (List.mem_range.1 hj)]
  rfl
theorem last_get {js : List Jb} {n x : Nat} (h : x < n) : ((lastV n js).toArray)[x]? = some (.int .i64 (lastAt js (x : Int))) := by simp [lastV, h]
theorem last_set {js : List Jb} {n x : Nat} {j : Jb} (h : x < n) (hj : j.ta = (x : Int)) : (lastV n js).toArray.setIfInBounds x (.int .i64 j.tm) = (lastV n (js ++ [j])).toArray := by
  unfold lastV
  simp only [List.setIfInBounds_toArray]
  congr 1
  refine List.ext_getElem? fun i => ?_
  rw [List.getElem?_set]
  by_cases hx : x = i
  · subst hx
    simp [h, lastAt_snoc, hj]
  · have : ¬ j.ta = (i : Int) := by omega
    by_cases hi : i < n
    · simp [hi, hx, lastAt_snoc, this]
    · simp [hi, hx]
theorem jobs_bad {ts : List Tk} (hs : setB ts = true) {js : List Jb} {k : Nat} {j : Jb} (hj : js[k]? = some j) (hp : (js.take k).all (jobB ts) = true ∧ pairB ts (js.take k) = true) (hn : nextB ts (js.take k) j = false) : jobsB ts js = false := by
  cases hx : jobsB ts js
  · rfl
  · have h1 := jobs_take (k + 1) (jobs_parts.1 hx).2.2
    rw [List.take_add_one, hj, Option.toList_some] at h1
    rw [(jobs_step hs hp).1 h1] at hn
    cases hn
theorem lastAt_range {ts : List Tk} {js : List Jb} (h : js.all (jobB ts) = true) (k : Int) : -20 ≤ lastAt js k ∧ lastAt js k ≤ 200 := by
  rcases lastAt_mem js k with ⟨j, hj, _, e⟩ | ⟨_, e⟩
  · have := jobB_iff.1 (List.all_eq_true.1 h j hj)
    omega
  · omega
set_option maxRecDepth 100000 in
set_option maxHeartbeats 8000000 in
theorem sJobs_is (w : World) (A : Option Addr) (n c : Nat) (ts : List Tk) (h : Tks w w.heap.size A n ts) (hn : n ≤ 1048576) (A2 : Option Addr) (m c2 : Nat) (js : List Jb) (h2 : Jbs w w.heap.size A2 m js) (b : Bool) (hb : jobsB ts js = b) :
    Calls Tryz.prog 50 #[.slice A n c, .slice A2 m c2] w (BRes b w) := by
  obtain ⟨i0, hi, hz0, hz1, hz2⟩ := info_parts info_int
  have H := Lib.hid h
  have HL := Lib.hid h.len
  have J := Lib.hid h2
  have HM := Lib.hid h2.len
  clear h h2
  cases hs : setB ts
  · obtain rfl : b = false := by rw [← hb]; unfold jobsB; rw [hs]; rfl
    have HS := Lib.hid hs
    clear hs hb
    go_enter Tryz.func50, Tryz.ntmps50
    go_wp2_with fail
    refine (sSetValid_any _ A n c ts H.out hn).mono ?_
    rintro e w1 ⟨rfl, hb⟩
    rw [HS.out]
    go_wp2
    go_ret
    exact ⟨rfl, hb⟩
  have hn5 : n ≤ 5 := by have := setB_len hs; rw [HL.out] at this; exact this
  have HS := Lib.hid hs
  clear hs
  by_cases h60 : 60 < m
  · obtain rfl : b = false := by rw [← hb]; exact no_of fun hx => by have := jobs_len hx; have := HM.out; omega
    have d1 : (60 : Int) < (m : Int) := by omega
    clear hb
    go_enter Tryz.func50, Tryz.ntmps50
    go_wp2_with fail
    refine (sSetValid_any _ A n c ts H.out hn).mono ?_
    rintro e w1 ⟨rfl, hb⟩
    rw [HS.out]
    go_wp2
    go_ret
    exact ⟨rfl, hb⟩
  have d1 : ¬ (60 : Int) < (m : Int) := by omega
  have HR := Lib.hid hb
  clear hb
  go_enter Tryz.func50, Tryz.ntmps50
  go_wp2_with fail
  refine (sSetValid_any _ A n c ts H.out hn).mono ?_
  rintro e w1 ⟨rfl, hb⟩
  rw [HS.out]
  have HB1 := Lib.hid hb
  clear hb
  go_wp2_with (at_make; refine wpList_make_full _ rfl _ _ 27 rfl w1.heap.size 3 i0 _ 1 Tryz.underlying27 hi hz0 hz1 .i64 .i64 _ _ n rfl rfl rfl rfl (by rw [hz2]; omega) (by unfold maxLen; omega) (Nat.le_refl _) ?_; intro w2 hown0 hgrow0)
  rw [made_int] at hown0
  have BS0 := Lib.hid (blk_own1 hown0)
  have HB0 := Lib.hid ((HB1.out).grown hgrow0 HB1.out.size (fun k e => by cases e))
  have hg1 : w.heap.size ≤ w1.heap.size := HB1.out.size
  clear hown0 hgrow0
  go_wp2
  go_loopw [6] (fun i wr => ∃ k : Nat, k ≤ n ∧ i = .int .i64 k ∧ Hid (Blk wr w1.heap.size 3 (fillV n k (-20)).toArray) ∧ Hid (Below w.heap.size w wr)) (fun i _ => n - (intOf i).toNat)
  case atStart => exact ⟨0, Nat.zero_le _, rfl, BS0, HB0⟩
  case round =>
    obtain ⟨k, hk, rfl, BS, HB⟩ := hrel
    by_cases hlt : k < n
    · have hlti : (k : Int) < (n : Int) := by omega
      have fx := BS.out.frozen k
      have cx := BS.out.cell k
      have hcx : ((fillV n k (-20)).toArray)[k]? = some (.int .i64 0) := by simp [fillV, hlt]
      rw [hcx] at cx
      have BS' := Lib.hid (show Blk (wr.setCell ⟨w1.heap.size, k, none⟩ (.int .i64 (-20))) w1.heap.size 3 (fillV n (k + 1) (-20)).toArray by rw [← fill_set hlt]; exact BS.out.set_ k (.int .i64 (-20)))
      clear hcx
      go_wp2
      go_roundw
      case rel => exact ⟨k + 1, by omega, by go_num, BS', Lib.hid (bl_set HB.out (by dsimp only; omega) _)⟩
      case measure => simp [intOf]; omega
    · obtain rfl : k = n := by omega
      have BS := Lib.hid (show Blk wr w1.heap.size 3 (lastV k (js.take 0)).toArray by rw [List.take_zero, ← fill_all]; exact BS.out)
      obtain ⟨w3, hw3⟩ : ∃ W, W = wr := ⟨_, rfl⟩
      subst hw3
      have HB3 := HB
      clear HB BS0 HB0
      go_wp2
      go_loopw [7] (fun i wr => ∃ q : Nat, q ≤ m ∧ i = .int .i64 q ∧ Hid ((js.take q).all (jobB ts) = true ∧ pairB ts (js.take q) = true) ∧ Hid (Blk wr w1.heap.size 3 (lastV k (js.take q)).toArray) ∧ Hid (Below w.heap.size w wr)) (fun i _ => m - (intOf i).toNat)
      case atStart => exact ⟨0, Nat.zero_le _, rfl, Lib.hid (by simp [pairB]), BS, HB3⟩
      case round =>
        obtain ⟨q, hq, rfl, HP, BQ, HB⟩ := hrel
        obtain ⟨w4, hw4⟩ : ∃ W, W = wr := ⟨_, rfl⟩
        subst hw4
        clear BS HB3
        by_cases hqm : q < m
        · have q2 : (q : Int) < (m : Int) := by omega
          obtain ⟨j, hj⟩ : ∃ j, js[q]? = some j := ⟨js[q]'(by rw [HM.out]; exact hqm), List.getElem?_eq_getElem _⟩
          obtain ⟨bj, oj, rfl, hbj, a0, a1, a2⟩ := (J.out.below HB.out).at_ q j hj
          have HJ := Lib.hid hj
          have hrange := lastAt_range HP.out.1
          have hgl : w1.heap.size < w4.heap.size := BQ.out.lt
          have hbj4 : bj < w4.heap.size := by omega
          clear hj
          obtain ⟨ta, tm, ne⟩ := j
          dsimp only at a0 a1 a2
          cases hjb : jobB ts ⟨ta, tm, ne⟩
          · have HJB := Lib.hid hjb
            obtain rfl : b = false := by
              rw [← HR.out]
              exact jobs_bad HS.out HJ.out HP.out (by unfold nextB; rw [hjb]; rfl)
            clear hjb hrange
            go_wp2_with fail
            have s0 : (w4.alloc (.cells #[.int .i64 ta, .int .i64 tm, .int .i64 ne] 46)).cell? ⟨w4.heap.size, 0, none⟩ = some (.int .i64 ta) := (Blk.new w4 46 #[.int .i64 ta, .int .i64 tm, .int .i64 ne]).cell 0
            have s1 : (w4.alloc (.cells #[.int .i64 ta, .int .i64 tm, .int .i64 ne] 46)).cell? ⟨w4.heap.size, 1, none⟩ = some (.int .i64 tm) := (Blk.new w4 46 #[.int .i64 ta, .int .i64 tm, .int .i64 ne]).cell 1
            have s2 : (w4.alloc (.cells #[.int .i64 ta, .int .i64 tm, .int .i64 ne] 46)).cell? ⟨w4.heap.size, 2, none⟩ = some (.int .i64 ne) := (Blk.new w4 46 #[.int .i64 ta, .int .i64 tm, .int .i64 ne]).cell 2
            have HW5 := Lib.hid (show Below w.heap.size w (w4.alloc (.cells #[.int .i64 ta, .int .i64 tm, .int .i64 ne] 46)) from bl_alloc HB.out _)
            have hz5 : w4.heap.size < (w4.alloc (.cells #[.int .i64 ta, .int .i64 tm, .int .i64 ne] 46)).heap.size := by simp
            generalize (w4.alloc (.cells #[.int .i64 ta, .int .i64 tm, .int .i64 ne] 46)) = w5 at *
            have HC := Lib.hid (And.intro s0 (And.intro s1 (s2)))
            clear s0 s1 s2
            refine wp_region_held_drew (S := (fun W => W.cell? ⟨w4.heap.size, 0, none⟩ = some (.int .i64 ta) ∧ W.cell? ⟨w4.heap.size, 1, none⟩ = some (.int .i64 tm) ∧ W.cell? ⟨w4.heap.size, 2, none⟩ = some (.int .i64 ne))) (by kernel_rfl) (by exact HC.out) (fun hHeld0 => ?_)
            refine wpAnyH_take (i := 0) (oi := { dst := some 39, op := .move (.tmp 0), type := 23, pos := "l6_jobs.go:24", after := #[], guard := none }) (v := ?vu1x0) rfl (by kernel_rfl) (by kernel_rfl) (by kernel_rfl) (fun _ _ _ h => h) (Or.inl ⟨by rfl, ?hyu1x0⟩) hHeld0 ?restu1x0
            case hyu1x0 => first | (intro w hSw; (try dsimp only at hSw); go_simp; done) | (intro w hSw; (try dsimp only at hSw); go_simp; with_reducible rfl)
            (try simp only [Act.put, List.setIfInBounds_toArray, List.set_cons_zero, List.set_cons_succ])
            refine wpAnyH_take (i := 1) (oi := { dst := some 40, op := .load 46 (.tmp 8), type := 46, pos := "l6_jobs.go:24", after := #[], guard := none }) (v := ?vu1x1) rfl (by kernel_rfl) (by kernel_rfl) (by kernel_rfl) (fun _ _ _ h => h) (Or.inl ⟨by rfl, ?hyu1x1⟩) hHeld0 ?restu1x1
            case hyu1x1 => first | (intro w hSw; (try dsimp only at hSw); go_simp; done) | (intro w hSw; (try dsimp only at hSw); go_simp; with_reducible rfl)
            (try simp only [Act.put, List.setIfInBounds_toArray, List.set_cons_zero, List.set_cons_succ])
            refine wpAnyH_ready (rs := [2]) (by kernel_rfl) (by simp) ?_
            refine AllReadyH.cons (o := { dst := some 41, op := .call { callee := .value (.func 100), args := #[.tmp 39, .tmp 40], argTypes := #[23, 46] }, type := 4, pos := "l6_jobs.go:24", after := #[⟨0, .data⟩, ⟨1, .data⟩], guard := none }) rfl (fun K hK => ?_) AllReadyH.nil
            go_simp
            (have uu := HW5; clear uu; go_at_call 100; refine (sJob_is _ A k c ts ((H.out.below (by repeat (first | with_reducible exact HW5.out | with_reducible refine bl_drewN ?_ _ | with_reducible refine Below.drew ?_) : Below w.heap.size w _)).more (Below.size (by repeat (first | with_reducible exact HW5.out | with_reducible refine bl_drewN ?_ _ | with_reducible refine Below.drew ?_) : Below w.heap.size w _))) ⟨ta, tm, ne⟩ false HJB.out).mono ?_; rintro e w6 ⟨rfl, hb⟩; have HB6 := Lib.hid (show Below w5.heap.size w5 w6 from bl_trans (by repeat (first | with_reducible exact Below.refl _ _ | with_reducible refine bl_drewN ?_ _ | with_reducible refine Below.drew ?_)) hb); clear hb)
            (try go_wp2_with fail)
            refine hK.out _ _ (by exact And.intro ((HB6.out.cell (p := ⟨w4.heap.size, 0, none⟩) hz5).trans (HC.out.1)) (And.intro ((HB6.out.cell (p := ⟨w4.heap.size, 1, none⟩) hz5).trans (HC.out.2.1)) (((HB6.out.cell (p := ⟨w4.heap.size, 2, none⟩) hz5).trans (HC.out.2.2))))) (fun hHeld1 => ?_)
            clear hK K
            (try simp only [Act.put, List.setIfInBounds_toArray, List.set_cons_zero, List.set_cons_succ])
            refine wpAnyH_take (i := 3) (oi := { dst := some 42, op := .unOp .not 4 (.tmp 41), type := 4, pos := "l6_jobs.go:24", after := #[⟨2, .data⟩], guard := none }) (v := ?vu1x3) rfl (by kernel_rfl) (by kernel_rfl) (by kernel_rfl) (fun _ _ _ h => h) (Or.inl ⟨by rfl, ?hyu1x3⟩) hHeld1 ?restu1x3
            case hyu1x3 => first | (intro w hSw; (try dsimp only at hSw); go_simp; done) | (intro w hSw; (try dsimp only at hSw); go_simp; with_reducible rfl)
            (try simp only [Act.put, List.setIfInBounds_toArray, List.set_cons_zero, List.set_cons_succ])
            refine wpAnyH_take (i := 4) (oi := { dst := some 43, op := .move (.tmp 42), type := 4, pos := "l6_jobs.go:24", after := #[⟨3, .data⟩, ⟨2, .chain⟩], guard := none }) (v := ?vu1x4) rfl (by kernel_rfl) (by kernel_rfl) (by kernel_rfl) (fun _ _ _ h => h) (Or.inl ⟨by rfl, ?hyu1x4⟩) hHeld1 ?restu1x4
            case hyu1x4 => first | (intro w hSw; (try dsimp only at hSw); go_simp; done) | (intro w hSw; (try dsimp only at hSw); go_simp; with_reducible rfl)
            (try simp only [Act.put, List.setIfInBounds_toArray, List.set_cons_zero, List.set_cons_succ])
            refine wpAnyH_take (i := 5) (oi := { dst := some 44, op := .move (.tmp 7), type := 3, pos := "l6_jobs.go:24", after := #[⟨4, .guard⟩], guard := some (4, false) }) (v := undef) rfl (by kernel_rfl) (by kernel_rfl) (by kernel_rfl) (fun _ _ _ h => h) (Or.inr ⟨by rfl, by rfl⟩) hHeld1 ?_
            (try simp only [Act.put, List.setIfInBounds_toArray, List.set_cons_zero, List.set_cons_succ])
            refine wpAnyH_take (i := 6) (oi := { dst := some 45, op := .binOp .gtr 3 (.tmp 44) (.const (.int .i64 0)) 3, type := 4, pos := "l6_jobs.go:24", after := #[⟨5, .data⟩, ⟨4, .guard⟩], guard := some (4, false) }) (v := undef) rfl (by kernel_rfl) (by kernel_rfl) (by kernel_rfl) (fun _ _ _ h => h) (Or.inr ⟨by rfl, by rfl⟩) hHeld1 ?_
            (try simp only [Act.put, List.setIfInBounds_toArray, List.set_cons_zero, List.set_cons_succ])
            refine wpAnyH_take (i := 7) (oi := { dst := some 46, op := .move (.tmp 45), type := 4, pos := "l6_jobs.go:24", after := #[⟨6, .data⟩, ⟨4, .chain⟩, ⟨4, .guard⟩], guard := some (4, false) }) (v := undef) rfl (by kernel_rfl) (by kernel_rfl) (by kernel_rfl) (fun _ _ _ h => h) (Or.inr ⟨by rfl, by rfl⟩) hHeld1 ?_
            (try simp only [Act.put, List.setIfInBounds_toArray, List.set_cons_zero, List.set_cons_succ])
            refine wpAnyH_take (i := 8) (oi := { dst := some 47, op := .move (.tmp 1), type := 24, pos := "l6_jobs.go:24", after := #[⟨7, .guard⟩], guard := some (7, true) }) (v := undef) rfl (by kernel_rfl) (by kernel_rfl) (by kernel_rfl) (fun _ _ _ h => h) (Or.inr ⟨by rfl, by rfl⟩) hHeld1 ?_
            (try simp only [Act.put, List.setIfInBounds_toArray, List.set_cons_zero, List.set_cons_succ])
            refine wpAnyH_take (i := 9) (oi := { dst := some 48, op := .move (.tmp 7), type := 3, pos := "l6_jobs.go:24", after := #[⟨7, .guard⟩], guard := some (7, true) }) (v := undef) rfl (by kernel_rfl) (by kernel_rfl) (by kernel_rfl) (fun _ _ _ h => h) (Or.inr ⟨by rfl, by rfl⟩) hHeld1 ?_
            (try simp only [Act.put, List.setIfInBounds_toArray, List.set_cons_zero, List.set_cons_succ])
            refine wpAnyH_take (i := 10) (oi := { dst := some 49, op := .binOp .sub 3 (.tmp 48) (.const (.int .i64 1)) 3, type := 3, pos := "l6_jobs.go:24", after := #[⟨9, .data⟩, ⟨7, .guard⟩], guard := some (7, true) }) (v := undef) rfl (by kernel_rfl) (by kernel_rfl) (by kernel_rfl) (fun _ _ _ h => h) (Or.inr ⟨by rfl, by rfl⟩) hHeld1 ?_
            (try simp only [Act.put, List.setIfInBounds_toArray, List.set_cons_zero, List.set_cons_succ])
            refine wpAnyH_take (i := 11) (oi := { dst := some 50, op := .indexAddr 24 (.tmp 47) (.tmp 49), type := 0, pos := "l6_jobs.go:24", after := #[⟨8, .data⟩, ⟨10, .data⟩, ⟨7, .guard⟩], guard := some (7, true) }) (v := undef) rfl (by kernel_rfl) (by kernel_rfl) (by kernel_rfl) (fun _ _ _ h => h) (Or.inr ⟨by rfl, by rfl⟩) hHeld1 ?_
            (try simp only [Act.put, List.setIfInBounds_toArray, List.set_cons_zero, List.set_cons_succ])
            refine wpAnyH_take (i := 12) (oi := { dst := some 51, op := .load 46 (.tmp 50), type := 46, pos := "l6_jobs.go:24", after := #[⟨11, .data⟩, ⟨7, .guard⟩], guard := some (7, true) }) (v := undef) rfl (by kernel_rfl) (by kernel_rfl) (by kernel_rfl) (fun _ _ _ h => h) (Or.inr ⟨by rfl, by rfl⟩) hHeld1 ?_
            (try simp only [Act.put, List.setIfInBounds_toArray, List.set_cons_zero, List.set_cons_succ])
            refine wpAnyH_take (i := 13) (oi := { dst := some 52, op := .load 46 (.tmp 8), type := 46, pos := "l6_jobs.go:24", after := #[⟨7, .guard⟩], guard := some (7, true) }) (v := undef) rfl (by kernel_rfl) (by kernel_rfl) (by kernel_rfl) (fun _ _ _ h => h) (Or.inr ⟨by rfl, by rfl⟩) hHeld1 ?_
            (try simp only [Act.put, List.setIfInBounds_toArray, List.set_cons_zero, List.set_cons_succ])
            refine wpAnyH_take (i := 14) (oi := { dst := some 53, op := .call { callee := .value (.func 101), args := #[.tmp 51, .tmp 52], argTypes := #[46, 46] }, type := 4, pos := "l6_jobs.go:24", after := #[⟨12, .data⟩, ⟨13, .data⟩, ⟨7, .chain⟩, ⟨7, .guard⟩], guard := some (7, true) }) (v := undef) rfl (by kernel_rfl) (by kernel_rfl) (by kernel_rfl) (fun _ _ _ h => h) (Or.inr ⟨by rfl, by rfl⟩) hHeld1 ?_
            (try simp only [Act.put, List.setIfInBounds_toArray, List.set_cons_zero, List.set_cons_succ])
            refine wpAnyH_take (i := 15) (oi := { dst := some 54, op := .unOp .not 4 (.tmp 53), type := 4, pos := "l6_jobs.go:24", after := #[⟨14, .data⟩, ⟨7, .guard⟩], guard := some (7, true) }) (v := undef) rfl (by kernel_rfl) (by kernel_rfl) (by kernel_rfl) (fun _ _ _ h => h) (Or.inr ⟨by rfl, by rfl⟩) hHeld1 ?_
            (try simp only [Act.put, List.setIfInBounds_toArray, List.set_cons_zero, List.set_cons_succ])
            refine wpAnyH_take (i := 16) (oi := { dst := some 55, op := .pick (.tmp 46) (.tmp 54) (.const (.bool false)), type := 4, pos := "l6_jobs.go:24", after := #[⟨7, .data⟩, ⟨15, .data⟩, ⟨4, .guard⟩], guard := some (4, false) }) (v := undef) rfl (by kernel_rfl) (by kernel_rfl) (by kernel_rfl) (fun _ _ _ h => h) (Or.inr ⟨by rfl, by rfl⟩) hHeld1 ?_
            (try simp only [Act.put, List.setIfInBounds_toArray, List.set_cons_zero, List.set_cons_succ])
            refine wpAnyH_take (i := 17) (oi := { dst := some 56, op := .pick (.tmp 43) (.const (.bool true)) (.tmp 55), type := 4, pos := "l6_jobs.go:24", after := #[⟨4, .data⟩, ⟨16, .data⟩], guard := none }) (v := ?vu1x17) rfl (by kernel_rfl) (by kernel_rfl) (by kernel_rfl) (fun _ _ _ h => h) (Or.inl ⟨by rfl, ?hyu1x17⟩) hHeld1 ?restu1x17
            case hyu1x17 => first | (intro w hSw; (try dsimp only at hSw); go_simp; done) | (intro w hSw; (try dsimp only at hSw); go_simp; with_reducible rfl)
            (try simp only [Act.put, List.setIfInBounds_toArray, List.set_cons_zero, List.set_cons_succ])
            refine wpAnyH_take (i := 18) (oi := { dst := some 57, op := .move (.tmp 56), type := 4, pos := "l6_jobs.go:24", after := #[⟨17, .data⟩, ⟨14, .chain⟩], guard := none }) (v := ?vu1x18) rfl (by kernel_rfl) (by kernel_rfl) (by kernel_rfl) (fun _ _ _ h => h) (Or.inl ⟨by rfl, ?hyu1x18⟩) hHeld1 ?restu1x18
            case hyu1x18 => first | (intro w hSw; (try dsimp only at hSw); go_simp; done) | (intro w hSw; (try dsimp only at hSw); go_simp; with_reducible rfl)
            (try simp only [Act.put, List.setIfInBounds_toArray, List.set_cons_zero, List.set_cons_succ])
            refine wpAnyH_take (i := 19) (oi := { dst := some 58, op := .fieldAddr 46 (.tmp 8) 1, type := 0, pos := "l6_jobs.go:24", after := #[⟨18, .guard⟩], guard := some (18, false) }) (v := undef) rfl (by kernel_rfl) (by kernel_rfl) (by kernel_rfl) (fun _ _ _ h => h) (Or.inr ⟨by rfl, by rfl⟩) hHeld1 ?_
            (try simp only [Act.put, List.setIfInBounds_toArray, List.set_cons_zero, List.set_cons_succ])
            refine wpAnyH_take (i := 20) (oi := { dst := some 59, op := .load 3 (.tmp 58), type := 3, pos := "l6_jobs.go:24", after := #[⟨19, .data⟩, ⟨18, .guard⟩], guard := some (18, false) }) (v := undef) rfl (by kernel_rfl) (by kernel_rfl) (by kernel_rfl) (fun _ _ _ h => h) (Or.inr ⟨by rfl, by rfl⟩) hHeld1 ?_
            (try simp only [Act.put, List.setIfInBounds_toArray, List.set_cons_zero, List.set_cons_succ])
            refine wpAnyH_take (i := 21) (oi := { dst := some 60, op := .move (.tmp 5), type := 27, pos := "l6_jobs.go:24", after := #[⟨18, .guard⟩], guard := some (18, false) }) (v := undef) rfl (by kernel_rfl) (by kernel_rfl) (by kernel_rfl) (fun _ _ _ h => h) (Or.inr ⟨by rfl, by rfl⟩) hHeld1 ?_
            (try simp only [Act.put, List.setIfInBounds_toArray, List.set_cons_zero, List.set_cons_succ])
            refine wpAnyH_take (i := 22) (oi := { dst := some 61, op := .fieldAddr 46 (.tmp 8) 0, type := 0, pos := "l6_jobs.go:24", after := #[⟨18, .guard⟩], guard := some (18, false) }) (v := undef) rfl (by kernel_rfl) (by kernel_rfl) (by kernel_rfl) (fun _ _ _ h => h) (Or.inr ⟨by rfl, by rfl⟩) hHeld1 ?_
            (try simp only [Act.put, List.setIfInBounds_toArray, List.set_cons_zero, List.set_cons_succ])
            refine wpAnyH_take (i := 23) (oi := { dst := some 62, op := .load 3 (.tmp 61), type := 3, pos := "l6_jobs.go:24", after := #[⟨22, .data⟩, ⟨18, .guard⟩], guard := some (18, false) }) (v := undef) rfl (by kernel_rfl) (by kernel_rfl) (by kernel_rfl) (fun _ _ _ h => h) (Or.inr ⟨by rfl, by rfl⟩) hHeld1 ?_
            (try simp only [Act.put, List.setIfInBounds_toArray, List.set_cons_zero, List.set_cons_succ])
            refine wpAnyH_take (i := 24) (oi := { dst := some 63, op := .indexAddr 27 (.tmp 60) (.tmp 62), type := 0, pos := "l6_jobs.go:24", after := #[⟨21, .data⟩, ⟨23, .data⟩, ⟨18, .guard⟩], guard := some (18, false) }) (v := undef) rfl (by kernel_rfl) (by kernel_rfl) (by kernel_rfl) (fun _ _ _ h => h) (Or.inr ⟨by rfl, by rfl⟩) hHeld1 ?_
            (try simp only [Act.put, List.setIfInBounds_toArray, List.set_cons_zero, List.set_cons_succ])
            refine wpAnyH_take (i := 25) (oi := { dst := some 64, op := .load 3 (.tmp 63), type := 3, pos := "l6_jobs.go:24", after := #[⟨24, .data⟩, ⟨18, .guard⟩], guard := some (18, false) }) (v := undef) rfl (by kernel_rfl) (by kernel_rfl) (by kernel_rfl) (fun _ _ _ h => h) (Or.inr ⟨by rfl, by rfl⟩) hHeld1 ?_
            (try simp only [Act.put, List.setIfInBounds_toArray, List.set_cons_zero, List.set_cons_succ])
            refine wpAnyH_take (i := 26) (oi := { dst := some 65, op := .binOp .sub 3 (.tmp 59) (.tmp 64) 3, type := 3, pos := "l6_jobs.go:24", after := #[⟨20, .data⟩, ⟨25, .data⟩, ⟨18, .guard⟩], guard := some (18, false) }) (v := undef) rfl (by kernel_rfl) (by kernel_rfl) (by kernel_rfl) (fun _ _ _ h => h) (Or.inr ⟨by rfl, by rfl⟩) hHeld1 ?_
            (try simp only [Act.put, List.setIfInBounds_toArray, List.set_cons_zero, List.set_cons_succ])
            refine wpAnyH_take (i := 27) (oi := { dst := some 66, op := .move (.tmp 0), type := 23, pos := "l6_jobs.go:24", after := #[⟨18, .guard⟩], guard := some (18, false) }) (v := undef) rfl (by kernel_rfl) (by kernel_rfl) (by kernel_rfl) (fun _ _ _ h => h) (Or.inr ⟨by rfl, by rfl⟩) hHeld1 ?_
            (try simp only [Act.put, List.setIfInBounds_toArray, List.set_cons_zero, List.set_cons_succ])
            refine wpAnyH_take (i := 28) (oi := { dst := some 67, op := .fieldAddr 46 (.tmp 8) 0, type := 0, pos := "l6_jobs.go:24", after := #[⟨18, .guard⟩], guard := some (18, false) }) (v := undef) rfl (by kernel_rfl) (by kernel_rfl) (by kernel_rfl) (fun _ _ _ h => h) (Or.inr ⟨by rfl, by rfl⟩) hHeld1 ?_
            (try simp only [Act.put, List.setIfInBounds_toArray, List.set_cons_zero, List.set_cons_succ])
            refine wpAnyH_take (i := 29) (oi := { dst := some 68, op := .load 3 (.tmp 67), type := 3, pos := "l6_jobs.go:24", after := #[⟨28, .data⟩, ⟨18, .guard⟩], guard := some (18, false) }) (v := undef) rfl (by kernel_rfl) (by kernel_rfl) (by kernel_rfl) (fun _ _ _ h => h) (Or.inr ⟨by rfl, by rfl⟩) hHeld1 ?_
            (try simp only [Act.put, List.setIfInBounds_toArray, List.set_cons_zero, List.set_cons_succ])
            refine wpAnyH_take (i := 30) (oi := { dst := some 69, op := .indexAddr 23 (.tmp 66) (.tmp 68), type := 0, pos := "l6_jobs.go:24", after := #[⟨27, .data⟩, ⟨29, .data⟩, ⟨18, .guard⟩], guard := some (18, false) }) (v := undef) rfl (by kernel_rfl) (by kernel_rfl) (by kernel_rfl) (fun _ _ _ h => h) (Or.inr ⟨by rfl, by rfl⟩) hHeld1 ?_
            (try simp only [Act.put, List.setIfInBounds_toArray, List.set_cons_zero, List.set_cons_succ])
            refine wpAnyH_take (i := 31) (oi := { dst := some 70, op := .fieldAddr 43 (.tmp 69) 3, type := 0, pos := "l6_jobs.go:24", after := #[⟨30, .data⟩, ⟨18, .guard⟩], guard := some (18, false) }) (v := undef) rfl (by kernel_rfl) (by kernel_rfl) (by kernel_rfl) (fun _ _ _ h => h) (Or.inr ⟨by rfl, by rfl⟩) hHeld1 ?_
            (try simp only [Act.put, List.setIfInBounds_toArray, List.set_cons_zero, List.set_cons_succ])
            refine wpAnyH_take (i := 32) (oi := { dst := some 71, op := .load 3 (.tmp 70), type := 3, pos := "l6_jobs.go:24", after := #[⟨31, .data⟩, ⟨18, .guard⟩], guard := some (18, false) }) (v := undef) rfl (by kernel_rfl) (by kernel_rfl) (by kernel_rfl) (fun _ _ _ h => h) (Or.inr ⟨by rfl, by rfl⟩) hHeld1 ?_
            (try simp only [Act.put, List.setIfInBounds_toArray, List.set_cons_zero, List.set_cons_succ])
            refine wpAnyH_take (i := 33) (oi := { dst := some 72, op := .binOp .lss 3 (.tmp 65) (.tmp 71) 3, type := 4, pos := "l6_jobs.go:24", after := #[⟨26, .data⟩, ⟨32, .data⟩, ⟨18, .guard⟩], guard := some (18, false) }) (v := undef) rfl (by kernel_rfl) (by kernel_rfl) (by kernel_rfl) (fun _ _ _ h => h) (Or.inr ⟨by rfl, by rfl⟩) hHeld1 ?_
            (try simp only [Act.put, List.setIfInBounds_toArray, List.set_cons_zero, List.set_cons_succ])
            refine wpAnyH_take (i := 34) (oi := { dst := some 73, op := .pick (.tmp 57) (.const (.bool true)) (.tmp 72), type := 4, pos := "l6_jobs.go:24", after := #[⟨18, .data⟩, ⟨33, .data⟩], guard := none }) (v := ?vu1x34) rfl (by kernel_rfl) (by kernel_rfl) (by kernel_rfl) (fun _ _ _ h => h) (Or.inl ⟨by rfl, ?hyu1x34⟩) hHeld1 ?restu1x34
            case hyu1x34 => first | (intro w hSw; (try dsimp only at hSw); go_simp; done) | (intro w hSw; (try dsimp only at hSw); go_simp; with_reducible rfl)
            (try simp only [Act.put, List.setIfInBounds_toArray, List.set_cons_zero, List.set_cons_succ])
            refine wpAnyH_done (by kernel_rfl) ?_ _
            go_wp2
            go_ret
            exact ⟨rfl, (by repeat (first | with_reducible exact bl_trans HW5.out HB6.out | refine bl_drewN ?_ _ | refine Below.drew ?_))⟩
          have HJB := Lib.hid hjb
          obtain ⟨b1, b2, b3, b4, b5, b6⟩ := jobB_iff.1 hjb
          obtain ⟨x, t, rfl, hx, ht, htk⟩ := tk_get b1 b2
          have hxk : x < k := by rw [← HL.out]; exact hx
          have hxi : (x : Int) < (k : Int) := by omega
          have hok : t.ok = true := by
            have := HS.out; unfold setB at this; simp at this
            exact this.2 t (List.mem_of_getElem? ht)
          have hev : 1 ≤ t.ev ∧ t.ev ≤ 20 := by unfold Tk.ok validB at hok; simp at hok; omega
          obtain ⟨bt, ot, rfl, hbt, _, _, _, t3, _⟩ := (H.out.below HB.out).at_ x t ht
          have hbt4 : bt < w4.heap.size := by have := HB.out.size; omega
          have hbt4' := hbt4
          have lx := (BQ.out.cell x).trans (last_get hxk)
          have hlr := hrange (x : Int)
          have hnext : nextB ts (js.take q) ⟨(x : Int), tm, ne⟩ = (((js.take q).getLast?.map fun a => befB a ⟨(x : Int), tm, ne⟩).getD true && decide (t.ev ≤ tm - lastAt (js.take q) (x : Int))) := by
            unfold nextB
            dsimp only
            rw [hjb, htk]
            rfl
          have HNX := Lib.hid hnext
          have HTAKE := Lib.hid (show js.take (q + 1) = js.take q ++ [⟨(x : Int), tm, ne⟩] by rw [List.take_add_one, HJ.out]; rfl)
          clear hjb b1 b2 htk ht hok hnext hrange b5 b6
          dsimp only at b3 b4
          obtain ⟨la, hla⟩ : ∃ z, lastAt (js.take q) (x : Int) = z := ⟨_, rfl⟩
          rw [hla] at lx hlr
          have HLA := Lib.hid hla
          clear hla
          have kd : IntKind.i64.wrap (tm - la) = tm - la := IntWalk.i64_in _ (by omega)
          obtain ⟨lo, hi', du, ev, cr⟩ := t
          dsimp only at t3 hev HNX
          by_cases hq0 : q = 0
          · subst hq0
            simp only [Nat.zero_mul, Nat.add_zero] at a0 a1 a2
            by_cases hd : ev ≤ tm - la
            · skip
              have HNT := Lib.hid (show nextB ts (js.take 0) ⟨(x : Int), tm, ne⟩ = true by rw [HNX.out, show ((js.take 0).getLast?.map fun a => befB a ⟨(x : Int), tm, ne⟩).getD true = true from rfl, Bool.true_and, HLA.out]; exact decide_eq_true hd)
              have dd : decide (tm - la < ev) = false := by simp; omega
              clear hd
              go_wp2_with fail
              have HBQ5 := Lib.hid (show Blk (w4.alloc (.cells #[.int .i64 (x : Int), .int .i64 tm, .int .i64 ne] 46)) w1.heap.size 3 (lastV k (js.take 0)).toArray from BQ.out.alloc _)
              have s0 : (w4.alloc (.cells #[.int .i64 (x : Int), .int .i64 tm, .int .i64 ne] 46)).cell? ⟨w4.heap.size, 0, none⟩ = some (.int .i64 (x : Int)) := (Blk.new w4 46 #[.int .i64 (x : Int), .int .i64 tm, .int .i64 ne]).cell 0
              have s1 : (w4.alloc (.cells #[.int .i64 (x : Int), .int .i64 tm, .int .i64 ne] 46)).cell? ⟨w4.heap.size, 1, none⟩ = some (.int .i64 tm) := (Blk.new w4 46 #[.int .i64 (x : Int), .int .i64 tm, .int .i64 ne]).cell 1
              have s2 : (w4.alloc (.cells #[.int .i64 (x : Int), .int .i64 tm, .int .i64 ne] 46)).cell? ⟨w4.heap.size, 2, none⟩ = some (.int .i64 ne) := (Blk.new w4 46 #[.int .i64 (x : Int), .int .i64 tm, .int .i64 ne]).cell 2
              have s3 : (w4.alloc (.cells #[.int .i64 (x : Int), .int .i64 tm, .int .i64 ne] 46)).cell? ⟨w1.heap.size, x, none⟩ = some (.int .i64 la) := (World.cell?_alloc_lt w4 _ ⟨w1.heap.size, x, none⟩ hgl).trans lx
              have s4 : (w4.alloc (.cells #[.int .i64 (x : Int), .int .i64 tm, .int .i64 ne] 46)).cell? ⟨bt, ot + x * 5 + 3, none⟩ = some (.int .i64 ev) := (World.cell?_alloc_lt w4 _ ⟨bt, ot + x * 5 + 3, none⟩ hbt4).trans t3
              have HW5 := Lib.hid (show Below w.heap.size w (w4.alloc (.cells #[.int .i64 (x : Int), .int .i64 tm, .int .i64 ne] 46)) from bl_alloc HB.out _)
              have hz5 : w4.heap.size < (w4.alloc (.cells #[.int .i64 (x : Int), .int .i64 tm, .int .i64 ne] 46)).heap.size := by simp
              generalize (w4.alloc (.cells #[.int .i64 (x : Int), .int .i64 tm, .int .i64 ne] 46)) = w5 at *
              have HC := Lib.hid (And.intro s0 (And.intro s1 (And.intro s2 (And.intro s3 (s4)))))
              clear s0 s1 s2 s3 s4
              refine wp_region_held_drew (S := (fun W => W.cell? ⟨w4.heap.size, 0, none⟩ = some (.int .i64 (x : Int)) ∧ W.cell? ⟨w4.heap.size, 1, none⟩ = some (.int .i64 tm) ∧ W.cell? ⟨w4.heap.size, 2, none⟩ = some (.int .i64 ne) ∧ W.cell? ⟨w1.heap.size, x, none⟩ = some (.int .i64 la) ∧ W.cell? ⟨bt, ot + x * 5 + 3, none⟩ = some (.int .i64 ev))) (by kernel_rfl) (by exact HC.out) (fun hHeld0 => ?_)
              refine wpAnyH_take (i := 0) (oi := { dst := some 39, op := .move (.tmp 0), type := 23, pos := "l6_jobs.go:24", after := #[], guard := none }) (v := ?vu2x0) rfl (by kernel_rfl) (by kernel_rfl) (by kernel_rfl) (fun _ _ _ h => h) (Or.inl ⟨by rfl, ?hyu2x0⟩) hHeld0 ?restu2x0
              case hyu2x0 => first | (intro w hSw; (try dsimp only at hSw); go_simp; done) | (intro w hSw; (try dsimp only at hSw); go_simp; with_reducible rfl)
              (try simp only [Act.put, List.setIfInBounds_toArray, List.set_cons_zero, List.set_cons_succ])
              refine wpAnyH_take (i := 1) (oi := { dst := some 40, op := .load 46 (.tmp 8), type := 46, pos := "l6_jobs.go:24", after := #[], guard := none }) (v := ?vu2x1) rfl (by kernel_rfl) (by kernel_rfl) (by kernel_rfl) (fun _ _ _ h => h) (Or.inl ⟨by rfl, ?hyu2x1⟩) hHeld0 ?restu2x1
              case hyu2x1 => first | (intro w hSw; (try dsimp only at hSw); go_simp; done) | (intro w hSw; (try dsimp only at hSw); go_simp; with_reducible rfl)
              (try simp only [Act.put, List.setIfInBounds_toArray, List.set_cons_zero, List.set_cons_succ])
              refine wpAnyH_ready (rs := [2]) (by kernel_rfl) (by simp) ?_
              refine AllReadyH.cons (o := { dst := some 41, op := .call { callee := .value (.func 100), args := #[.tmp 39, .tmp 40], argTypes := #[23, 46] }, type := 4, pos := "l6_jobs.go:24", after := #[⟨0, .data⟩, ⟨1, .data⟩], guard := none }) rfl (fun K hK => ?_) AllReadyH.nil
              go_simp
              (have uu := HW5; clear uu; go_at_call 100; refine (sJob_is _ (some ⟨bt, ot, none⟩) k c ts ((H.out.below (by repeat (first | with_reducible exact HW5.out | with_reducible refine bl_drewN ?_ _ | with_reducible refine Below.drew ?_) : Below w.heap.size w _)).more (Below.size (by repeat (first | with_reducible exact HW5.out | with_reducible refine bl_drewN ?_ _ | with_reducible refine Below.drew ?_) : Below w.heap.size w _))) ⟨(x : Int), tm, ne⟩ true HJB.out).mono ?_; rintro e w6 ⟨rfl, hb⟩; have HB6 := Lib.hid (show Below w5.heap.size w5 w6 from bl_trans (by repeat (first | with_reducible exact Below.refl _ _ | with_reducible refine bl_drewN ?_ _ | with_reducible refine Below.drew ?_)) hb); clear hb)
              (try go_wp2_with fail)
              refine hK.out _ _ (by exact And.intro ((HB6.out.cell (p := ⟨w4.heap.size, 0, none⟩) hz5).trans (HC.out.1)) (And.intro ((HB6.out.cell (p := ⟨w4.heap.size, 1, none⟩) hz5).trans (HC.out.2.1)) (And.intro ((HB6.out.cell (p := ⟨w4.heap.size, 2, none⟩) hz5).trans (HC.out.2.2.1)) (And.intro ((HB6.out.cell (p := ⟨w1.heap.size, x, none⟩) (Nat.lt_trans hgl hz5)).trans (HC.out.2.2.2.1)) (((HB6.out.cell (p := ⟨bt, ot + x * 5 + 3, none⟩) (Nat.lt_trans hbt4' hz5)).trans (HC.out.2.2.2.2))))))) (fun hHeld1 => ?_)
              clear hK K
              (try simp only [Act.put, List.setIfInBounds_toArray, List.set_cons_zero, List.set_cons_succ])
              refine wpAnyH_take (i := 3) (oi := { dst := some 42, op := .unOp .not 4 (.tmp 41), type := 4, pos := "l6_jobs.go:24", after := #[⟨2, .data⟩], guard := none }) (v := ?vu2x3) rfl (by kernel_rfl) (by kernel_rfl) (by kernel_rfl) (fun _ _ _ h => h) (Or.inl ⟨by rfl, ?hyu2x3⟩) hHeld1 ?restu2x3
              case hyu2x3 => first | (intro w hSw; (try dsimp only at hSw); go_simp; done) | (intro w hSw; (try dsimp only at hSw); go_simp; with_reducible rfl)
              (try simp only [Act.put, List.setIfInBounds_toArray, List.set_cons_zero, List.set_cons_succ])
              refine wpAnyH_take (i := 4) (oi := { dst := some 43, op := .move (.tmp 42), type := 4, pos := "l6_jobs.go:24", after := #[⟨3, .data⟩, ⟨2, .chain⟩], guard := none }) (v := ?vu2x4) rfl (by kernel_rfl) (by kernel_rfl) (by kernel_rfl) (fun _ _ _ h => h) (Or.inl ⟨by rfl, ?hyu2x4⟩) hHeld1 ?restu2x4
              case hyu2x4 => first | (intro w hSw; (try dsimp only at hSw); go_simp; done) | (intro w hSw; (try dsimp only at hSw); go_simp; with_reducible rfl)
              (try simp only [Act.put, List.setIfInBounds_toArray, List.set_cons_zero, List.set_cons_succ])
              refine wpAnyH_take (i := 5) (oi := { dst := some 44, op := .move (.tmp 7), type := 3, pos := "l6_jobs.go:24", after := #[⟨4, .guard⟩], guard := some (4, false) }) (v := ?vu2x5) rfl (by kernel_rfl) (by kernel_rfl) (by kernel_rfl) (fun _ _ _ h => h) (Or.inl ⟨by rfl, ?hyu2x5⟩) hHeld1 ?restu2x5
              case hyu2x5 => first | (intro w hSw; (try dsimp only at hSw); go_simp; done) | (intro w hSw; (try dsimp only at hSw); go_simp; with_reducible rfl)
              (try simp only [Act.put, List.setIfInBounds_toArray, List.set_cons_zero, List.set_cons_succ])
              refine wpAnyH_take (i := 6) (oi := { dst := some 45, op := .binOp .gtr 3 (.tmp 44) (.const (.int .i64 0)) 3, type := 4, pos := "l6_jobs.go:24", after := #[⟨5, .data⟩, ⟨4, .guard⟩], guard := some (4, false) }) (v := ?vu2x6) rfl (by kernel_rfl) (by kernel_rfl) (by kernel_rfl) (fun _ _ _ h => h) (Or.inl ⟨by rfl, ?hyu2x6⟩) hHeld1 ?restu2x6
              case hyu2x6 => first | (intro w hSw; (try dsimp only at hSw); go_simp; done) | (intro w hSw; (try dsimp only at hSw); go_simp; with_reducible rfl)
              (try simp only [Act.put, List.setIfInBounds_toArray, List.set_cons_zero, List.set_cons_succ])
              refine wpAnyH_take (i := 7) (oi := { dst := some 46, op := .move (.tmp 45), type := 4, pos := "l6_jobs.go:24", after := #[⟨6, .data⟩, ⟨4, .chain⟩, ⟨4, .guard⟩], guard := some (4, false) }) (v := ?vu2x7) rfl (by kernel_rfl) (by kernel_rfl) (by kernel_rfl) (fun _ _ _ h => h) (Or.inl ⟨by rfl, ?hyu2x7⟩) hHeld1 ?restu2x7
              case hyu2x7 => first | (intro w hSw; (try dsimp only at hSw); go_simp; done) | (intro w hSw; (try dsimp only at hSw); go_simp; with_reducible rfl)
              (try simp only [Act.put, List.setIfInBounds_toArray, List.set_cons_zero, List.set_cons_succ])
              refine wpAnyH_take (i := 8) (oi := { dst := some 47, op := .move (.tmp 1), type := 24, pos := "l6_jobs.go:24", after := #[⟨7, .guard⟩], guard := some (7, true) }) (v := undef) rfl (by kernel_rfl) (by kernel_rfl) (by kernel_rfl) (fun _ _ _ h => h) (Or.inr ⟨by rfl, by rfl⟩) hHeld1 ?_
              (try simp only [Act.put, List.setIfInBounds_toArray, List.set_cons_zero, List.set_cons_succ])
              refine wpAnyH_take (i := 9) (oi := { dst := some 48, op := .move (.tmp 7), type := 3, pos := "l6_jobs.go:24", after := #[⟨7, .guard⟩], guard := some (7, true) }) (v := undef) rfl (by kernel_rfl) (by kernel_rfl) (by kernel_rfl) (fun _ _ _ h => h) (Or.inr ⟨by rfl, by rfl⟩) hHeld1 ?_
              (try simp only [Act.put, List.setIfInBounds_toArray, List.set_cons_zero, List.set_cons_succ])
              refine wpAnyH_take (i := 10) (oi := { dst := some 49, op := .binOp .sub 3 (.tmp 48) (.const (.int .i64 1)) 3, type := 3, pos := "l6_jobs.go:24", after := #[⟨9, .data⟩, ⟨7, .guard⟩], guard := some (7, true) }) (v := undef) rfl (by kernel_rfl) (by kernel_rfl) (by kernel_rfl) (fun _ _ _ h => h) (Or.inr ⟨by rfl, by rfl⟩) hHeld1 ?_
              (try simp only [Act.put, List.setIfInBounds_toArray, List.set_cons_zero, List.set_cons_succ])
              refine wpAnyH_take (i := 11) (oi := { dst := some 50, op := .indexAddr 24 (.tmp 47) (.tmp 49), type := 0, pos := "l6_jobs.go:24", after := #[⟨8, .data⟩, ⟨10, .data⟩, ⟨7, .guard⟩], guard := some (7, true) }) (v := undef) rfl (by kernel_rfl) (by kernel_rfl) (by kernel_rfl) (fun _ _ _ h => h) (Or.inr ⟨by rfl, by rfl⟩) hHeld1 ?_
              (try simp only [Act.put, List.setIfInBounds_toArray, List.set_cons_zero, List.set_cons_succ])
              refine wpAnyH_take (i := 12) (oi := { dst := some 51, op := .load 46 (.tmp 50), type := 46, pos := "l6_jobs.go:24", after := #[⟨11, .data⟩, ⟨7, .guard⟩], guard := some (7, true) }) (v := undef) rfl (by kernel_rfl) (by kernel_rfl) (by kernel_rfl) (fun _ _ _ h => h) (Or.inr ⟨by rfl, by rfl⟩) hHeld1 ?_
              (try simp only [Act.put, List.setIfInBounds_toArray, List.set_cons_zero, List.set_cons_succ])
              refine wpAnyH_take (i := 13) (oi := { dst := some 52, op := .load 46 (.tmp 8), type := 46, pos := "l6_jobs.go:24", after := #[⟨7, .guard⟩], guard := some (7, true) }) (v := undef) rfl (by kernel_rfl) (by kernel_rfl) (by kernel_rfl) (fun _ _ _ h => h) (Or.inr ⟨by rfl, by rfl⟩) hHeld1 ?_
              (try simp only [Act.put, List.setIfInBounds_toArray, List.set_cons_zero, List.set_cons_succ])
              refine wpAnyH_take (i := 14) (oi := { dst := some 53, op := .call { callee := .value (.func 101), args := #[.tmp 51, .tmp 52], argTypes := #[46, 46] }, type := 4, pos := "l6_jobs.go:24", after := #[⟨12, .data⟩, ⟨13, .data⟩, ⟨7, .chain⟩, ⟨7, .guard⟩], guard := some (7, true) }) (v := undef) rfl (by kernel_rfl) (by kernel_rfl) (by kernel_rfl) (fun _ _ _ h => h) (Or.inr ⟨by rfl, by rfl⟩) hHeld1 ?_
              (try simp only [Act.put, List.setIfInBounds_toArray, List.set_cons_zero, List.set_cons_succ])
              refine wpAnyH_take (i := 15) (oi := { dst := some 54, op := .unOp .not 4 (.tmp 53), type := 4, pos := "l6_jobs.go:24", after := #[⟨14, .data⟩, ⟨7, .guard⟩], guard := some (7, true) }) (v := undef) rfl (by kernel_rfl) (by kernel_rfl) (by kernel_rfl) (fun _ _ _ h => h) (Or.inr ⟨by rfl, by rfl⟩) hHeld1 ?_
              (try simp only [Act.put, List.setIfInBounds_toArray, List.set_cons_zero, List.set_cons_succ])
              refine wpAnyH_take (i := 16) (oi := { dst := some 55, op := .pick (.tmp 46) (.tmp 54) (.const (.bool false)), type := 4, pos := "l6_jobs.go:24", after := #[⟨7, .data⟩, ⟨15, .data⟩, ⟨4, .guard⟩], guard := some (4, false) }) (v := ?vu2x16) rfl (by kernel_rfl) (by kernel_rfl) (by kernel_rfl) (fun _ _ _ h => h) (Or.inl ⟨by rfl, ?hyu2x16⟩) hHeld1 ?restu2x16
              case hyu2x16 => first | (intro w hSw; (try dsimp only at hSw); go_simp; done) | (intro w hSw; (try dsimp only at hSw); go_simp; with_reducible rfl)
              (try simp only [Act.put, List.setIfInBounds_toArray, List.set_cons_zero, List.set_cons_succ])
              refine wpAnyH_take (i := 17) (oi := { dst := some 56, op := .pick (.tmp 43) (.const (.bool true)) (.tmp 55), type := 4, pos := "l6_jobs.go:24", after := #[⟨4, .data⟩, ⟨16, .data⟩], guard := none }) (v := ?vu2x17) rfl (by kernel_rfl) (by kernel_rfl) (by kernel_rfl) (fun _ _ _ h => h) (Or.inl ⟨by rfl, ?hyu2x17⟩) hHeld1 ?restu2x17
              case hyu2x17 => first | (intro w hSw; (try dsimp only at hSw); go_simp; done) | (intro w hSw; (try dsimp only at hSw); go_simp; with_reducible rfl)
              (try simp only [Act.put, List.setIfInBounds_toArray, List.set_cons_zero, List.set_cons_succ])
              refine wpAnyH_take (i := 18) (oi := { dst := some 57, op := .move (.tmp 56), type := 4, pos := "l6_jobs.go:24", after := #[⟨17, .data⟩, ⟨14, .chain⟩], guard := none }) (v := ?vu2x18) rfl (by kernel_rfl) (by kernel_rfl) (by kernel_rfl) (fun _ _ _ h => h) (Or.inl ⟨by rfl, ?hyu2x18⟩) hHeld1 ?restu2x18
              case hyu2x18 => first | (intro w hSw; (try dsimp only at hSw); go_simp; done) | (intro w hSw; (try dsimp only at hSw); go_simp; with_reducible rfl)
              (try simp only [Act.put, List.setIfInBounds_toArray, List.set_cons_zero, List.set_cons_succ])
              refine wpAnyH_take (i := 19) (oi := { dst := some 58, op := .fieldAddr 46 (.tmp 8) 1, type := 0, pos := "l6_jobs.go:24", after := #[⟨18, .guard⟩], guard := some (18, false) }) (v := ?vu2x19) rfl (by kernel_rfl) (by kernel_rfl) (by kernel_rfl) (fun _ _ _ h => h) (Or.inl ⟨by rfl, ?hyu2x19⟩) hHeld1 ?restu2x19
              case hyu2x19 => first | (intro w hSw; (try dsimp only at hSw); go_simp; done) | (intro w hSw; (try dsimp only at hSw); go_simp; with_reducible rfl)
              (try simp only [Act.put, List.setIfInBounds_toArray, List.set_cons_zero, List.set_cons_succ])
              refine wpAnyH_take (i := 20) (oi := { dst := some 59, op := .load 3 (.tmp 58), type := 3, pos := "l6_jobs.go:24", after := #[⟨19, .data⟩, ⟨18, .guard⟩], guard := some (18, false) }) (v := ?vu2x20) rfl (by kernel_rfl) (by kernel_rfl) (by kernel_rfl) (fun _ _ _ h => h) (Or.inl ⟨by rfl, ?hyu2x20⟩) hHeld1 ?restu2x20
              case hyu2x20 => first | (intro w hSw; (try dsimp only at hSw); go_simp; done) | (intro w hSw; (try dsimp only at hSw); go_simp; with_reducible rfl)
              (try simp only [Act.put, List.setIfInBounds_toArray, List.set_cons_zero, List.set_cons_succ])
              refine wpAnyH_take (i := 21) (oi := { dst := some 60, op := .move (.tmp 5), type := 27, pos := "l6_jobs.go:24", after := #[⟨18, .guard⟩], guard := some (18, false) }) (v := ?vu2x21) rfl (by kernel_rfl) (by kernel_rfl) (by kernel_rfl) (fun _ _ _ h => h) (Or.inl ⟨by rfl, ?hyu2x21⟩) hHeld1 ?restu2x21
              case hyu2x21 => first | (intro w hSw; (try dsimp only at hSw); go_simp; done) | (intro w hSw; (try dsimp only at hSw); go_simp; with_reducible rfl)
              (try simp only [Act.put, List.setIfInBounds_toArray, List.set_cons_zero, List.set_cons_succ])
              refine wpAnyH_take (i := 22) (oi := { dst := some 61, op := .fieldAddr 46 (.tmp 8) 0, type := 0, pos := "l6_jobs.go:24", after := #[⟨18, .guard⟩], guard := some (18, false) }) (v := ?vu2x22) rfl (by kernel_rfl) (by kernel_rfl) (by kernel_rfl) (fun _ _ _ h => h) (Or.inl ⟨by rfl, ?hyu2x22⟩) hHeld1 ?restu2x22
              case hyu2x22 => first | (intro w hSw; (try dsimp only at hSw); go_simp; done) | (intro w hSw; (try dsimp only at hSw); go_simp; with_reducible rfl)
              (try simp only [Act.put, List.setIfInBounds_toArray, List.set_cons_zero, List.set_cons_succ])
              refine wpAnyH_take (i := 23) (oi := { dst := some 62, op := .load 3 (.tmp 61), type := 3, pos := "l6_jobs.go:24", after := #[⟨22, .data⟩, ⟨18, .guard⟩], guard := some (18, false) }) (v := ?vu2x23) rfl (by kernel_rfl) (by kernel_rfl) (by kernel_rfl) (fun _ _ _ h => h) (Or.inl ⟨by rfl, ?hyu2x23⟩) hHeld1 ?restu2x23
              case hyu2x23 => first | (intro w hSw; (try dsimp only at hSw); go_simp; done) | (intro w hSw; (try dsimp only at hSw); go_simp; with_reducible rfl)
              (try simp only [Act.put, List.setIfInBounds_toArray, List.set_cons_zero, List.set_cons_succ])
              refine wpAnyH_take (i := 24) (oi := { dst := some 63, op := .indexAddr 27 (.tmp 60) (.tmp 62), type := 0, pos := "l6_jobs.go:24", after := #[⟨21, .data⟩, ⟨23, .data⟩, ⟨18, .guard⟩], guard := some (18, false) }) (v := ?vu2x24) rfl (by kernel_rfl) (by kernel_rfl) (by kernel_rfl) (fun _ _ _ h => h) (Or.inl ⟨by rfl, ?hyu2x24⟩) hHeld1 ?restu2x24
              case hyu2x24 => first | (intro w hSw; (try dsimp only at hSw); go_simp; done) | (intro w hSw; (try dsimp only at hSw); go_simp; with_reducible rfl)
              (try simp only [Act.put, List.setIfInBounds_toArray, List.set_cons_zero, List.set_cons_succ])
              refine wpAnyH_take (i := 25) (oi := { dst := some 64, op := .load 3 (.tmp 63), type := 3, pos := "l6_jobs.go:24", after := #[⟨24, .data⟩, ⟨18, .guard⟩], guard := some (18, false) }) (v := ?vu2x25) rfl (by kernel_rfl) (by kernel_rfl) (by kernel_rfl) (fun _ _ _ h => h) (Or.inl ⟨by rfl, ?hyu2x25⟩) hHeld1 ?restu2x25
              case hyu2x25 => first | (intro w hSw; (try dsimp only at hSw); go_simp; done) | (intro w hSw; (try dsimp only at hSw); go_simp; with_reducible rfl)
              (try simp only [Act.put, List.setIfInBounds_toArray, List.set_cons_zero, List.set_cons_succ])
              refine wpAnyH_take (i := 26) (oi := { dst := some 65, op := .binOp .sub 3 (.tmp 59) (.tmp 64) 3, type := 3, pos := "l6_jobs.go:24", after := #[⟨20, .data⟩, ⟨25, .data⟩, ⟨18, .guard⟩], guard := some (18, false) }) (v := ?vu2x26) rfl (by kernel_rfl) (by kernel_rfl) (by kernel_rfl) (fun _ _ _ h => h) (Or.inl ⟨by rfl, ?hyu2x26⟩) hHeld1 ?restu2x26
              case hyu2x26 => first | (intro w hSw; (try dsimp only at hSw); go_simp; done) | (intro w hSw; (try dsimp only at hSw); go_simp; with_reducible rfl)
              (try simp only [Act.put, List.setIfInBounds_toArray, List.set_cons_zero, List.set_cons_succ])
              refine wpAnyH_take (i := 27) (oi := { dst := some 66, op := .move (.tmp 0), type := 23, pos := "l6_jobs.go:24", after := #[⟨18, .guard⟩], guard := some (18, false) }) (v := ?vu2x27) rfl (by kernel_rfl) (by kernel_rfl) (by kernel_rfl) (fun _ _ _ h => h) (Or.inl ⟨by rfl, ?hyu2x27⟩) hHeld1 ?restu2x27
              case hyu2x27 => first | (intro w hSw; (try dsimp only at hSw); go_simp; done) | (intro w hSw; (try dsimp only at hSw); go_simp; with_reducible rfl)
              (try simp only [Act.put, List.setIfInBounds_toArray, List.set_cons_zero, List.set_cons_succ])
              refine wpAnyH_take (i := 28) (oi := { dst := some 67, op := .fieldAddr 46 (.tmp 8) 0, type := 0, pos := "l6_jobs.go:24", after := #[⟨18, .guard⟩], guard := some (18, false) }) (v := ?vu2x28) rfl (by kernel_rfl) (by kernel_rfl) (by kernel_rfl) (fun _ _ _ h => h) (Or.inl ⟨by rfl, ?hyu2x28⟩) hHeld1 ?restu2x28
              case hyu2x28 => first | (intro w hSw; (try dsimp only at hSw); go_simp; done) | (intro w hSw; (try dsimp only at hSw); go_simp; with_reducible rfl)
              (try simp only [Act.put, List.setIfInBounds_toArray, List.set_cons_zero, List.set_cons_succ])
              refine wpAnyH_take (i := 29) (oi := { dst := some 68, op := .load 3 (.tmp 67), type := 3, pos := "l6_jobs.go:24", after := #[⟨28, .data⟩, ⟨18, .guard⟩], guard := some (18, false) }) (v := ?vu2x29) rfl (by kernel_rfl) (by kernel_rfl) (by kernel_rfl) (fun _ _ _ h => h) (Or.inl ⟨by rfl, ?hyu2x29⟩) hHeld1 ?restu2x29
              case hyu2x29 => first | (intro w hSw; (try dsimp only at hSw); go_simp; done) | (intro w hSw; (try dsimp only at hSw); go_simp; with_reducible rfl)
              (try simp only [Act.put, List.setIfInBounds_toArray, List.set_cons_zero, List.set_cons_succ])
              refine wpAnyH_take (i := 30) (oi := { dst := some 69, op := .indexAddr 23 (.tmp 66) (.tmp 68), type := 0, pos := "l6_jobs.go:24", after := #[⟨27, .data⟩, ⟨29, .data⟩, ⟨18, .guard⟩], guard := some (18, false) }) (v := ?vu2x30) rfl (by kernel_rfl) (by kernel_rfl) (by kernel_rfl) (fun _ _ _ h => h) (Or.inl ⟨by rfl, ?hyu2x30⟩) hHeld1 ?restu2x30
              case hyu2x30 => first | (intro w hSw; (try dsimp only at hSw); go_simp; done) | (intro w hSw; (try dsimp only at hSw); go_simp; with_reducible rfl)
              (try simp only [Act.put, List.setIfInBounds_toArray, List.set_cons_zero, List.set_cons_succ])
              refine wpAnyH_take (i := 31) (oi := { dst := some 70, op := .fieldAddr 43 (.tmp 69) 3, type := 0, pos := "l6_jobs.go:24", after := #[⟨30, .data⟩, ⟨18, .guard⟩], guard := some (18, false) }) (v := ?vu2x31) rfl (by kernel_rfl) (by kernel_rfl) (by kernel_rfl) (fun _ _ _ h => h) (Or.inl ⟨by rfl, ?hyu2x31⟩) hHeld1 ?restu2x31
              case hyu2x31 => first | (intro w hSw; (try dsimp only at hSw); go_simp; done) | (intro w hSw; (try dsimp only at hSw); go_simp; with_reducible rfl)
              (try simp only [Act.put, List.setIfInBounds_toArray, List.set_cons_zero, List.set_cons_succ])
              refine wpAnyH_take (i := 32) (oi := { dst := some 71, op := .load 3 (.tmp 70), type := 3, pos := "l6_jobs.go:24", after := #[⟨31, .data⟩, ⟨18, .guard⟩], guard := some (18, false) }) (v := ?vu2x32) rfl (by kernel_rfl) (by kernel_rfl) (by kernel_rfl) (fun _ _ _ h => h) (Or.inl ⟨by rfl, ?hyu2x32⟩) hHeld1 ?restu2x32
              case hyu2x32 => first | (intro w hSw; (try dsimp only at hSw); go_simp; done) | (intro w hSw; (try dsimp only at hSw); go_simp; with_reducible rfl)
              (try simp only [Act.put, List.setIfInBounds_toArray, List.set_cons_zero, List.set_cons_succ])
              refine wpAnyH_take (i := 33) (oi := { dst := some 72, op := .binOp .lss 3 (.tmp 65) (.tmp 71) 3, type := 4, pos := "l6_jobs.go:24", after := #[⟨26, .data⟩, ⟨32, .data⟩, ⟨18, .guard⟩], guard := some (18, false) }) (v := ?vu2x33) rfl (by kernel_rfl) (by kernel_rfl) (by kernel_rfl) (fun _ _ _ h => h) (Or.inl ⟨by rfl, ?hyu2x33⟩) hHeld1 ?restu2x33
              case hyu2x33 => first | (intro w hSw; (try dsimp only at hSw); go_simp; done) | (intro w hSw; (try dsimp only at hSw); go_simp; with_reducible rfl)
              (try simp only [Act.put, List.setIfInBounds_toArray, List.set_cons_zero, List.set_cons_succ])
              refine wpAnyH_take (i := 34) (oi := { dst := some 73, op := .pick (.tmp 57) (.const (.bool true)) (.tmp 72), type := 4, pos := "l6_jobs.go:24", after := #[⟨18, .data⟩, ⟨33, .data⟩], guard := none }) (v := ?vu2x34) rfl (by kernel_rfl) (by kernel_rfl) (by kernel_rfl) (fun _ _ _ h => h) (Or.inl ⟨by rfl, ?hyu2x34⟩) hHeld1 ?restu2x34
              case hyu2x34 => first | (intro w hSw; (try dsimp only at hSw); go_simp; done) | (intro w hSw; (try dsimp only at hSw); go_simp; with_reducible rfl)
              (try simp only [Act.put, List.setIfInBounds_toArray, List.set_cons_zero, List.set_cons_succ])
              refine wpAnyH_done (by kernel_rfl) ?_ _
              have BW := Lib.hid (show Blk w5 w1.heap.size 3 (lastV k (js.take 0)).toArray from HBQ5.out)
              have B7 := Lib.hid (BW.out.below HB6.out BW.out.lt)
              have hs7 := HB6.out.size
              have f7 := B7.out.frozen x
              have l7 := (B7.out.cell x).trans (last_get hxk)
              have cj7 := fun i (hi : i < 3) => (HB6.out.cell (p := ⟨w4.heap.size, i, none⟩) hz5)
              have y0 := (HB6.out.cell (p := ⟨w4.heap.size, 0, none⟩) hz5).trans (HC.out.1)
              have y1 := (HB6.out.cell (p := ⟨w4.heap.size, 1, none⟩) hz5).trans (HC.out.2.1)
              have BN := Lib.hid (show ∀ W, Blk W w1.heap.size 3 (lastV k (js.take 0)).toArray → Blk (W.setCell ⟨w1.heap.size, x, none⟩ (.int .i64 tm)) w1.heap.size 3 (lastV k (js.take (0 + 1))).toArray from fun W hW => by rw [HTAKE.out, ← last_set (j := ⟨(x : Int), tm, ne⟩) hxk rfl]; exact hW.set_ x (.int .i64 tm))
              have HPN := Lib.hid (show (js.take (0 + 1)).all (jobB ts) = true ∧ pairB ts (js.take (0 + 1)) = true by rw [HTAKE.out]; exact (jobs_step HS.out HP.out).2 HNT.out)
              clear cj7
              go_wp2
              go_roundw
              case rel => exact ⟨0 + 1, by omega, by go_num, HPN, Lib.hid (BN.out _ (by repeat (first | exact B7.out | refine Blk.drewN ?_ _ | refine Blk.drew ?_))), Lib.hid (bl_set (by repeat (first | with_reducible exact bl_trans HW5.out HB6.out | refine bl_drewN ?_ _ | refine Below.drew ?_)) (by dsimp only; omega) _)⟩
              case measure => simp [intOf]; omega
            · skip
              obtain rfl : b = false := by
                rw [← HR.out]
                exact jobs_bad HS.out HJ.out HP.out (by rw [HNX.out, show ((js.take 0).getLast?.map fun a => befB a ⟨(x : Int), tm, ne⟩).getD true = true from rfl, Bool.true_and, HLA.out]; exact decide_eq_false hd)
              have dd : decide (tm - la < ev) = true := by simp; omega
              clear hd
              go_wp2_with fail
              have HBQ5 := Lib.hid (show Blk (w4.alloc (.cells #[.int .i64 (x : Int), .int .i64 tm, .int .i64 ne] 46)) w1.heap.size 3 (lastV k (js.take 0)).toArray from BQ.out.alloc _)
              have s0 : (w4.alloc (.cells #[.int .i64 (x : Int), .int .i64 tm, .int .i64 ne] 46)).cell? ⟨w4.heap.size, 0, none⟩ = some (.int .i64 (x : Int)) := (Blk.new w4 46 #[.int .i64 (x : Int), .int .i64 tm, .int .i64 ne]).cell 0
              have s1 : (w4.alloc (.cells #[.int .i64 (x : Int), .int .i64 tm, .int .i64 ne] 46)).cell? ⟨w4.heap.size, 1, none⟩ = some (.int .i64 tm) := (Blk.new w4 46 #[.int .i64 (x : Int), .int .i64 tm, .int .i64 ne]).cell 1
              have s2 : (w4.alloc (.cells #[.int .i64 (x : Int), .int .i64 tm, .int .i64 ne] 46)).cell? ⟨w4.heap.size, 2, none⟩ = some (.int .i64 ne) := (Blk.new w4 46 #[.int .i64 (x : Int), .int .i64 tm, .int .i64 ne]).cell 2
              have s3 : (w4.alloc (.cells #[.int .i64 (x : Int), .int .i64 tm, .int .i64 ne] 46)).cell? ⟨w1.heap.size, x, none⟩ = some (.int .i64 la) := (World.cell?_alloc_lt w4 _ ⟨w1.heap.size, x, none⟩ hgl).trans lx
              have s4 : (w4.alloc (.cells #[.int .i64 (x : Int), .int .i64 tm, .int .i64 ne] 46)).cell? ⟨bt, ot + x * 5 + 3, none⟩ = some (.int .i64 ev) := (World.cell?_alloc_lt w4 _ ⟨bt, ot + x * 5 + 3, none⟩ hbt4).trans t3
              have HW5 := Lib.hid (show Below w.heap.size w (w4.alloc (.cells #[.int .i64 (x : Int), .int .i64 tm, .int .i64 ne] 46)) from bl_alloc HB.out _)
              have hz5 : w4.heap.size < (w4.alloc (.cells #[.int .i64 (x : Int), .int .i64 tm, .int .i64 ne] 46)).heap.size := by simp
              generalize (w4.alloc (.cells #[.int .i64 (x : Int), .int .i64 tm, .int .i64 ne] 46)) = w5 at *
              have HC := Lib.hid (And.intro s0 (And.intro s1 (And.intro s2 (And.intro s3 (s4)))))
              clear s0 s1 s2 s3 s4
              refine wp_region_held_drew (S := (fun W => W.cell? ⟨w4.heap.size, 0, none⟩ = some (.int .i64 (x : Int)) ∧ W.cell? ⟨w4.heap.size, 1, none⟩ = some (.int .i64 tm) ∧ W.cell? ⟨w4.heap.size, 2, none⟩ = some (.int .i64 ne) ∧ W.cell? ⟨w1.heap.size, x, none⟩ = some (.int .i64 la) ∧ W.cell? ⟨bt, ot + x * 5 + 3, none⟩ = some (.int .i64 ev))) (by kernel_rfl) (by exact HC.out) (fun hHeld0 => ?_)
              refine wpAnyH_take (i := 0) (oi := { dst := some 39, op := .move (.tmp 0), type := 23, pos := "l6_jobs.go:24", after := #[], guard := none }) (v := ?vu3x0) rfl (by kernel_rfl) (by kernel_rfl) (by kernel_rfl) (fun _ _ _ h => h) (Or.inl ⟨by rfl, ?hyu3x0⟩) hHeld0 ?restu3x0
              case hyu3x0 => first | (intro w hSw; (try dsimp only at hSw); go_simp; done) | (intro w hSw; (try dsimp only at hSw); go_simp; with_reducible rfl)
              (try simp only [Act.put, List.setIfInBounds_toArray, List.set_cons_zero, List.set_cons_succ])
              refine wpAnyH_take (i := 1) (oi := { dst := some 40, op := .load 46 (.tmp 8), type := 46, pos := "l6_jobs.go:24", after := #[], guard := none }) (v := ?vu3x1) rfl (by kernel_rfl) (by kernel_rfl) (by kernel_rfl) (fun _ _ _ h => h) (Or.inl ⟨by rfl, ?hyu3x1⟩) hHeld0 ?restu3x1
              case hyu3x1 => first | (intro w hSw; (try dsimp only at hSw); go_simp; done) | (intro w hSw; (try dsimp only at hSw); go_simp; with_reducible rfl)
              (try simp only [Act.put, List.setIfInBounds_toArray, List.set_cons_zero, List.set_cons_succ])
              refine wpAnyH_ready (rs := [2]) (by kernel_rfl) (by simp) ?_
              refine AllReadyH.cons (o := { dst := some 41, op := .call { callee := .value (.func 100), args := #[.tmp 39, .tmp 40], argTypes := #[23, 46] }, type := 4, pos := "l6_jobs.go:24", after := #[⟨0, .data⟩, ⟨1, .data⟩], guard := none }) rfl (fun K hK => ?_) AllReadyH.nil
              go_simp
              (have uu := HW5; clear uu; go_at_call 100; refine (sJob_is _ (some ⟨bt, ot, none⟩) k c ts ((H.out.below (by repeat (first | with_reducible exact HW5.out | with_reducible refine bl_drewN ?_ _ | with_reducible refine Below.drew ?_) : Below w.heap.size w _)).more (Below.size (by repeat (first | with_reducible exact HW5.out | with_reducible refine bl_drewN ?_ _ | with_reducible refine Below.drew ?_) : Below w.heap.size w _))) ⟨(x : Int), tm, ne⟩ true HJB.out).mono ?_; rintro e w6 ⟨rfl, hb⟩; have HB6 := Lib.hid (show Below w5.heap.size w5 w6 from bl_trans (by repeat (first | with_reducible exact Below.refl _ _ | with_reducible refine bl_drewN ?_ _ | with_reducible refine Below.drew ?_)) hb); clear hb)
              (try go_wp2_with fail)
              refine hK.out _ _ (by exact And.intro ((HB6.out.cell (p := ⟨w4.heap.size, 0, none⟩) hz5).trans (HC.out.1)) (And.intro ((HB6.out.cell (p := ⟨w4.heap.size, 1, none⟩) hz5).trans (HC.out.2.1)) (And.intro ((HB6.out.cell (p := ⟨w4.heap.size, 2, none⟩) hz5).trans (HC.out.2.2.1)) (And.intro ((HB6.out.cell (p := ⟨w1.heap.size, x, none⟩) (Nat.lt_trans hgl hz5)).trans (HC.out.2.2.2.1)) (((HB6.out.cell (p := ⟨bt, ot + x * 5 + 3, none⟩) (Nat.lt_trans hbt4' hz5)).trans (HC.out.2.2.2.2))))))) (fun hHeld1 => ?_)
              clear hK K
              (try simp only [Act.put, List.setIfInBounds_toArray, List.set_cons_zero, List.set_cons_succ])
              refine wpAnyH_take (i := 3) (oi := { dst := some 42, op := .unOp .not 4 (.tmp 41), type := 4, pos := "l6_jobs.go:24", after := #[⟨2, .data⟩], guard := none }) (v := ?vu3x3) rfl (by kernel_rfl) (by kernel_rfl) (by kernel_rfl) (fun _ _ _ h => h) (Or.inl ⟨by rfl, ?hyu3x3⟩) hHeld1 ?restu3x3
              case hyu3x3 => first | (intro w hSw; (try dsimp only at hSw); go_simp; done) | (intro w hSw; (try dsimp only at hSw); go_simp; with_reducible rfl)
              (try simp only [Act.put, List.setIfInBounds_toArray, List.set_cons_zero, List.set_cons_succ])
              refine wpAnyH_take (i := 4) (oi := { dst := some 43, op := .move (.tmp 42), type := 4, pos := "l6_jobs.go:24", after := #[⟨3, .data⟩, ⟨2, .chain⟩], guard := none }) (v := ?vu3x4) rfl (by kernel_rfl) (by kernel_rfl) (by kernel_rfl) (fun _ _ _ h => h) (Or.inl ⟨by rfl, ?hyu3x4⟩) hHeld1 ?restu3x4
              case hyu3x4 => first | (intro w hSw; (try dsimp only at hSw); go_simp; done) | (intro w hSw; (try dsimp only at hSw); go_simp; with_reducible rfl)
              (try simp only [Act.put, List.setIfInBounds_toArray, List.set_cons_zero, List.set_cons_succ])
              refine wpAnyH_take (i := 5) (oi := { dst := some 44, op := .move (.tmp 7), type := 3, pos := "l6_jobs.go:24", after := #[⟨4, .guard⟩], guard := some (4, false) }) (v := ?vu3x5) rfl (by kernel_rfl) (by kernel_rfl) (by kernel_rfl) (fun _ _ _ h => h) (Or.inl ⟨by rfl, ?hyu3x5⟩) hHeld1 ?restu3x5
              case hyu3x5 => first | (intro w hSw; (try dsimp only at hSw); go_simp; done) | (intro w hSw; (try dsimp only at hSw); go_simp; with_reducible rfl)
              (try simp only [Act.put, List.setIfInBounds_toArray, List.set_cons_zero, List.set_cons_succ])
              refine wpAnyH_take (i := 6) (oi := { dst := some 45, op := .binOp .gtr 3 (.tmp 44) (.const (.int .i64 0)) 3, type := 4, pos := "l6_jobs.go:24", after := #[⟨5, .data⟩, ⟨4, .guard⟩], guard := some (4, false) }) (v := ?vu3x6) rfl (by kernel_rfl) (by kernel_rfl) (by kernel_rfl) (fun _ _ _ h => h) (Or.inl ⟨by rfl, ?hyu3x6⟩) hHeld1 ?restu3x6
              case hyu3x6 => first | (intro w hSw; (try dsimp only at hSw); go_simp; done) | (intro w hSw; (try dsimp only at hSw); go_simp; with_reducible rfl)
              (try simp only [Act.put, List.setIfInBounds_toArray, List.set_cons_zero, List.set_cons_succ])
              refine wpAnyH_take (i := 7) (oi := { dst := some 46, op := .move (.tmp 45), type := 4, pos := "l6_jobs.go:24", after := #[⟨6, .data⟩, ⟨4, .chain⟩, ⟨4, .guard⟩], guard := some (4, false) }) (v := ?vu3x7) rfl (by kernel_rfl) (by kernel_rfl) (by kernel_rfl) (fun _ _ _ h => h) (Or.inl ⟨by rfl, ?hyu3x7⟩) hHeld1 ?restu3x7
              case hyu3x7 => first | (intro w hSw; (try dsimp only at hSw); go_simp; done) | (intro w hSw; (try dsimp only at hSw); go_simp; with_reducible rfl)
              (try simp only [Act.put, List.setIfInBounds_toArray, List.set_cons_zero, List.set_cons_succ])
              refine wpAnyH_take (i := 8) (oi := { dst := some 47, op := .move (.tmp 1), type := 24, pos := "l6_jobs.go:24", after := #[⟨7, .guard⟩], guard := some (7, true) }) (v := undef) rfl (by kernel_rfl) (by kernel_rfl) (by kernel_rfl) (fun _ _ _ h => h) (Or.inr ⟨by rfl, by rfl⟩) hHeld1 ?_
              (try simp only [Act.put, List.setIfInBounds_toArray, List.set_cons_zero, List.set_cons_succ])
              refine wpAnyH_take (i := 9) (oi := { dst := some 48, op := .move (.tmp 7), type := 3, pos := "l6_jobs.go:24", after := #[⟨7, .guard⟩], guard := some (7, true) }) (v := undef) rfl (by kernel_rfl) (by kernel_rfl) (by kernel_rfl) (fun _ _ _ h => h) (Or.inr ⟨by rfl, by rfl⟩) hHeld1 ?_
              (try simp only [Act.put, List.setIfInBounds_toArray, List.set_cons_zero, List.set_cons_succ])
              refine wpAnyH_take (i := 10) (oi := { dst := some 49, op := .binOp .sub 3 (.tmp 48) (.const (.int .i64 1)) 3, type := 3, pos := "l6_jobs.go:24", after := #[⟨9, .data⟩, ⟨7, .guard⟩], guard := some (7, true) }) (v := undef) rfl (by kernel_rfl) (by kernel_rfl) (by kernel_rfl) (fun _ _ _ h => h) (Or.inr ⟨by rfl, by rfl⟩) hHeld1 ?_
              (try simp only [Act.put, List.setIfInBounds_toArray, List.set_cons_zero, List.set_cons_succ])
              refine wpAnyH_take (i := 11) (oi := { dst := some 50, op := .indexAddr 24 (.tmp 47) (.tmp 49), type := 0, pos := "l6_jobs.go:24", after := #[⟨8, .data⟩, ⟨10, .data⟩, ⟨7, .guard⟩], guard := some (7, true) }) (v := undef) rfl (by kernel_rfl) (by kernel_rfl) (by kernel_rfl) (fun _ _ _ h => h) (Or.inr ⟨by rfl, by rfl⟩) hHeld1 ?_
              (try simp only [Act.put, List.setIfInBounds_toArray, List.set_cons_zero, List.set_cons_succ])
              refine wpAnyH_take (i := 12) (oi := { dst := some 51, op := .load 46 (.tmp 50), type := 46, pos := "l6_jobs.go:24", after := #[⟨11, .data⟩, ⟨7, .guard⟩], guard := some (7, true) }) (v := undef) rfl (by kernel_rfl) (by kernel_rfl) (by kernel_rfl) (fun _ _ _ h => h) (Or.inr ⟨by rfl, by rfl⟩) hHeld1 ?_
              (try simp only [Act.put, List.setIfInBounds_toArray, List.set_cons_zero, List.set_cons_succ])
              refine wpAnyH_take (i := 13) (oi := { dst := some 52, op := .load 46 (.tmp 8), type := 46, pos := "l6_jobs.go:24", after := #[⟨7, .guard⟩], guard := some (7, true) }) (v := undef) rfl (by kernel_rfl) (by kernel_rfl) (by kernel_rfl) (fun _ _ _ h => h) (Or.inr ⟨by rfl, by rfl⟩) hHeld1 ?_
              (try simp only [Act.put, List.setIfInBounds_toArray, List.set_cons_zero, List.set_cons_succ])
              refine wpAnyH_take (i := 14) (oi := { dst := some 53, op := .call { callee := .value (.func 101), args := #[.tmp 51, .tmp 52], argTypes := #[46, 46] }, type := 4, pos := "l6_jobs.go:24", after := #[⟨12, .data⟩, ⟨13, .data⟩, ⟨7, .chain⟩, ⟨7, .guard⟩], guard := some (7, true) }) (v := undef) rfl (by kernel_rfl) (by kernel_rfl) (by kernel_rfl) (fun _ _ _ h => h) (Or.inr ⟨by rfl, by rfl⟩) hHeld1 ?_
              (try simp only [Act.put, List.setIfInBounds_toArray, List.set_cons_zero, List.set_cons_succ])
              refine wpAnyH_take (i := 15) (oi := { dst := some 54, op := .unOp .not 4 (.tmp 53), type := 4, pos := "l6_jobs.go:24", after := #[⟨14, .data⟩, ⟨7, .guard⟩], guard := some (7, true) }) (v := undef) rfl (by kernel_rfl) (by kernel_rfl) (by kernel_rfl) (fun _ _ _ h => h) (Or.inr ⟨by rfl, by rfl⟩) hHeld1 ?_
              (try simp only [Act.put, List.setIfInBounds_toArray, List.set_cons_zero, List.set_cons_succ])
              refine wpAnyH_take (i := 16) (oi := { dst := some 55, op := .pick (.tmp 46) (.tmp 54) (.const (.bool false)), type := 4, pos := "l6_jobs.go:24", after := #[⟨7, .data⟩, ⟨15, .data⟩, ⟨4, .guard⟩], guard := some (4, false) }) (v := ?vu3x16) rfl (by kernel_rfl) (by kernel_rfl) (by kernel_rfl) (fun _ _ _ h => h) (Or.inl ⟨by rfl, ?hyu3x16⟩) hHeld1 ?restu3x16
              case hyu3x16 => first | (intro w hSw; (try dsimp only at hSw); go_simp; done) | (intro w hSw; (try dsimp only at hSw); go_simp; with_reducible rfl)
              (try simp only [Act.put, List.setIfInBounds_toArray, List.set_cons_zero, List.set_cons_succ])
              refine wpAnyH_take (i := 17) (oi := { dst := some 56, op := .pick (.tmp 43) (.const (.bool true)) (.tmp 55), type := 4, pos := "l6_jobs.go:24", after := #[⟨4, .data⟩, ⟨16, .data⟩], guard := none }) (v := ?vu3x17) rfl (by kernel_rfl) (by kernel_rfl) (by kernel_rfl) (fun _ _ _ h => h) (Or.inl ⟨by rfl, ?hyu3x17⟩) hHeld1 ?restu3x17
              case hyu3x17 => first | (intro w hSw; (try dsimp only at hSw); go_simp; done) | (intro w hSw; (try dsimp only at hSw); go_simp; with_reducible rfl)
              (try simp only [Act.put, List.setIfInBounds_toArray, List.set_cons_zero, List.set_cons_succ])
              refine wpAnyH_take (i := 18) (oi := { dst := some 57, op := .move (.tmp 56), type := 4, pos := "l6_jobs.go:24", after := #[⟨17, .data⟩, ⟨14, .chain⟩], guard := none }) (v := ?vu3x18) rfl (by kernel_rfl) (by kernel_rfl) (by kernel_rfl) (fun _ _ _ h => h) (Or.inl ⟨by rfl, ?hyu3x18⟩) hHeld1 ?restu3x18
              case hyu3x18 => first | (intro w hSw; (try dsimp only at hSw); go_simp; done) | (intro w hSw; (try dsimp only at hSw); go_simp; with_reducible rfl)
              (try simp only [Act.put, List.setIfInBounds_toArray, List.set_cons_zero, List.set_cons_succ])
              refine wpAnyH_take (i := 19) (oi := { dst := some 58, op := .fieldAddr 46 (.tmp 8) 1, type := 0, pos := "l6_jobs.go:24", after := #[⟨18, .guard⟩], guard := some (18, false) }) (v := ?vu3x19) rfl (by kernel_rfl) (by kernel_rfl) (by kernel_rfl) (fun _ _ _ h => h) (Or.inl ⟨by rfl, ?hyu3x19⟩) hHeld1 ?restu3x19
              case hyu3x19 => first | (intro w hSw; (try dsimp only at hSw); go_simp; done) | (intro w hSw; (try dsimp only at hSw); go_simp; with_reducible rfl)
              (try simp only [Act.put, List.setIfInBounds_toArray, List.set_cons_zero, List.set_cons_succ])
              refine wpAnyH_take (i := 20) (oi := { dst := some 59, op := .load 3 (.tmp 58), type := 3, pos := "l6_jobs.go:24", after := #[⟨19, .data⟩, ⟨18, .guard⟩], guard := some (18, false) }) (v := ?vu3x20) rfl (by kernel_rfl) (by kernel_rfl) (by kernel_rfl) (fun _ _ _ h => h) (Or.inl ⟨by rfl, ?hyu3x20⟩) hHeld1 ?restu3x20
              case hyu3x20 => first | (intro w hSw; (try dsimp only at hSw); go_simp; done) | (intro w hSw; (try dsimp only at hSw); go_simp; with_reducible rfl)
              (try simp only [Act.put, List.setIfInBounds_toArray, List.set_cons_zero, List.set_cons_succ])
              refine wpAnyH_take (i := 21) (oi := { dst := some 60, op := .move (.tmp 5), type := 27, pos := "l6_jobs.go:24", after := #[⟨18, .guard⟩], guard := some (18, false) }) (v := ?vu3x21) rfl (by kernel_rfl) (by kernel_rfl) (by kernel_rfl) (fun _ _ _ h => h) (Or.inl ⟨by rfl, ?hyu3x21⟩) hHeld1 ?restu3x21
              case hyu3x21 => first | (intro w hSw; (try dsimp only at hSw); go_simp; done) | (intro w hSw; (try dsimp only at hSw); go_simp; with_reducible rfl)
              (try simp only [Act.put, List.setIfInBounds_toArray, List.set_cons_zero, List.set_cons_succ])
              refine wpAnyH_take (i := 22) (oi := { dst := some 61, op := .fieldAddr 46 (.tmp 8) 0, type := 0, pos := "l6_jobs.go:24", after := #[⟨18, .guard⟩], guard := some (18, false) }) (v := ?vu3x22) rfl (by kernel_rfl) (by kernel_rfl) (by kernel_rfl) (fun _ _ _ h => h) (Or.inl ⟨by rfl, ?hyu3x22⟩) hHeld1 ?restu3x22
              case hyu3x22 => first | (intro w hSw; (try dsimp only at hSw); go_simp; done) | (intro w hSw; (try dsimp only at hSw); go_simp; with_reducible rfl)
              (try simp only [Act.put, List.setIfInBounds_toArray, List.set_cons_zero, List.set_cons_succ])
              refine wpAnyH_take (i := 23) (oi := { dst := some 62, op := .load 3 (.tmp 61), type := 3, pos := "l6_jobs.go:24", after := #[⟨22, .data⟩, ⟨18, .guard⟩], guard := some (18, false) }) (v := ?vu3x23) rfl (by kernel_rfl) (by kernel_rfl) (by kernel_rfl) (fun _ _ _ h => h) (Or.inl ⟨by rfl, ?hyu3x23⟩) hHeld1 ?restu3x23
              case hyu3x23 => first | (intro w hSw; (try dsimp only at hSw); go_simp; done) | (intro w hSw; (try dsimp only at hSw); go_simp; with_reducible rfl)
              (try simp only [Act.put, List.setIfInBounds_toArray, List.set_cons_zero, List.set_cons_succ])
              refine wpAnyH_take (i := 24) (oi := { dst := some 63, op := .indexAddr 27 (.tmp 60) (.tmp 62), type := 0, pos := "l6_jobs.go:24", after := #[⟨21, .data⟩, ⟨23, .data⟩, ⟨18, .guard⟩], guard := some (18, false) }) (v := ?vu3x24) rfl (by kernel_rfl) (by kernel_rfl) (by kernel_rfl) (fun _ _ _ h => h) (Or.inl ⟨by rfl, ?hyu3x24⟩) hHeld1 ?restu3x24
              case hyu3x24 => first | (intro w hSw; (try dsimp only at hSw); go_simp; done) | (intro w hSw; (try dsimp only at hSw); go_simp; with_reducible rfl)
              (try simp only [Act.put, List.setIfInBounds_toArray, List.set_cons_zero, List.set_cons_succ])
              refine wpAnyH_take (i := 25) (oi := { dst := some 64, op := .load 3 (.tmp 63), type := 3, pos := "l6_jobs.go:24", after := #[⟨24, .data⟩, ⟨18, .guard⟩], guard := some (18, false) }) (v := ?vu3x25) rfl (by kernel_rfl) (by kernel_rfl) (by kernel_rfl) (fun _ _ _ h => h) (Or.inl ⟨by rfl, ?hyu3x25⟩) hHeld1 ?restu3x25
              case hyu3x25 => first | (intro w hSw; (try dsimp only at hSw); go_simp; done) | (intro w hSw; (try dsimp only at hSw); go_simp; with_reducible rfl)
              (try simp only [Act.put, List.setIfInBounds_toArray, List.set_cons_zero, List.set_cons_succ])
              refine wpAnyH_take (i := 26) (oi := { dst := some 65, op := .binOp .sub 3 (.tmp 59) (.tmp 64) 3, type := 3, pos := "l6_jobs.go:24", after := #[⟨20, .data⟩, ⟨25, .data⟩, ⟨18, .guard⟩], guard := some (18, false) }) (v := ?vu3x26) rfl (by kernel_rfl) (by kernel_rfl) (by kernel_rfl) (fun _ _ _ h => h) (Or.inl ⟨by rfl, ?hyu3x26⟩) hHeld1 ?restu3x26
              case hyu3x26 => first | (intro w hSw; (try dsimp only at hSw); go_simp; done) | (intro w hSw; (try dsimp only at hSw); go_simp; with_reducible rfl)
              (try simp only [Act.put, List.setIfInBounds_toArray, List.set_cons_zero, List.set_cons_succ])
              refine wpAnyH_take (i := 27) (oi := { dst := some 66, op := .move (.tmp 0), type := 23, pos := "l6_jobs.go:24", after := #[⟨18, .guard⟩], guard := some (18, false) }) (v := ?vu3x27) rfl (by kernel_rfl) (by kernel_rfl) (by kernel_rfl) (fun _ _ _ h => h) (Or.inl ⟨by rfl, ?hyu3x27⟩) hHeld1 ?restu3x27
              case hyu3x27 => first | (intro w hSw; (try dsimp only at hSw); go_simp; done) | (intro w hSw; (try dsimp only at hSw); go_simp; with_reducible rfl)
              (try simp only [Act.put, List.setIfInBounds_toArray, List.set_cons_zero, List.set_cons_succ])
              refine wpAnyH_take (i := 28) (oi := { dst := some 67, op := .fieldAddr 46 (.tmp 8) 0, type := 0, pos := "l6_jobs.go:24", after := #[⟨18, .guard⟩], guard := some (18, false) }) (v := ?vu3x28) rfl (by kernel_rfl) (by kernel_rfl) (by kernel_rfl) (fun _ _ _ h => h) (Or.inl ⟨by rfl, ?hyu3x28⟩) hHeld1 ?restu3x28
              case hyu3x28 => first | (intro w hSw; (try dsimp only at hSw); go_simp; done) | (intro w hSw; (try dsimp only at hSw); go_simp; with_reducible rfl)
              (try simp only [Act.put, List.setIfInBounds_toArray, List.set_cons_zero, List.set_cons_succ])
              refine wpAnyH_take (i := 29) (oi := { dst := some 68, op := .load 3 (.tmp 67), type := 3, pos := "l6_jobs.go:24", after := #[⟨28, .data⟩, ⟨18, .guard⟩], guard := some (18, false) }) (v := ?vu3x29) rfl (by kernel_rfl) (by kernel_rfl) (by kernel_rfl) (fun _ _ _ h => h) (Or.inl ⟨by rfl, ?hyu3x29⟩) hHeld1 ?restu3x29
              case hyu3x29 => first | (intro w hSw; (try dsimp only at hSw); go_simp; done) | (intro w hSw; (try dsimp only at hSw); go_simp; with_reducible rfl)
              (try simp only [Act.put, List.setIfInBounds_toArray, List.set_cons_zero, List.set_cons_succ])
              refine wpAnyH_take (i := 30) (oi := { dst := some 69, op := .indexAddr 23 (.tmp 66) (.tmp 68), type := 0, pos := "l6_jobs.go:24", after := #[⟨27, .data⟩, ⟨29, .data⟩, ⟨18, .guard⟩], guard := some (18, false) }) (v := ?vu3x30) rfl (by kernel_rfl) (by kernel_rfl) (by kernel_rfl) (fun _ _ _ h => h) (Or.inl ⟨by rfl, ?hyu3x30⟩) hHeld1 ?restu3x30
              case hyu3x30 => first | (intro w hSw; (try dsimp only at hSw); go_simp; done) | (intro w hSw; (try dsimp only at hSw); go_simp; with_reducible rfl)
              (try simp only [Act.put, List.setIfInBounds_toArray, List.set_cons_zero, List.set_cons_succ])
              refine wpAnyH_take (i := 31) (oi := { dst := some 70, op := .fieldAddr 43 (.tmp 69) 3, type := 0, pos := "l6_jobs.go:24", after := #[⟨30, .data⟩, ⟨18, .guard⟩], guard := some (18, false) }) (v := ?vu3x31) rfl (by kernel_rfl) (by kernel_rfl) (by kernel_rfl) (fun _ _ _ h => h) (Or.inl ⟨by rfl, ?hyu3x31⟩) hHeld1 ?restu3x31
              case hyu3x31 => first | (intro w hSw; (try dsimp only at hSw); go_simp; done) | (intro w hSw; (try dsimp only at hSw); go_simp; with_reducible rfl)
              (try simp only [Act.put, List.setIfInBounds_toArray, List.set_cons_zero, List.set_cons_succ])
              refine wpAnyH_take (i := 32) (oi := { dst := some 71, op := .load 3 (.tmp 70), type := 3, pos := "l6_jobs.go:24", after := #[⟨31, .data⟩, ⟨18, .guard⟩], guard := some (18, false) }) (v := ?vu3x32) rfl (by kernel_rfl) (by kernel_rfl) (by kernel_rfl) (fun _ _ _ h => h) (Or.inl ⟨by rfl, ?hyu3x32⟩) hHeld1 ?restu3x32
              case hyu3x32 => first | (intro w hSw; (try dsimp only at hSw); go_simp; done) | (intro w hSw; (try dsimp only at hSw); go_simp; with_reducible rfl)
              (try simp only [Act.put, List.setIfInBounds_toArray, List.set_cons_zero, List.set_cons_succ])
              refine wpAnyH_take (i := 33) (oi := { dst := some 72, op := .binOp .lss 3 (.tmp 65) (.tmp 71) 3, type := 4, pos := "l6_jobs.go:24", after := #[⟨26, .data⟩, ⟨32, .data⟩, ⟨18, .guard⟩], guard := some (18, false) }) (v := ?vu3x33) rfl (by kernel_rfl) (by kernel_rfl) (by kernel_rfl) (fun _ _ _ h => h) (Or.inl ⟨by rfl, ?hyu3x33⟩) hHeld1 ?restu3x33
              case hyu3x33 => first | (intro w hSw; (try dsimp only at hSw); go_simp; done) | (intro w hSw; (try dsimp only at hSw); go_simp; with_reducible rfl)
              (try simp only [Act.put, List.setIfInBounds_toArray, List.set_cons_zero, List.set_cons_succ])
              refine wpAnyH_take (i := 34) (oi := { dst := some 73, op := .pick (.tmp 57) (.const (.bool true)) (.tmp 72), type := 4, pos := "l6_jobs.go:24", after := #[⟨18, .data⟩, ⟨33, .data⟩], guard := none }) (v := ?vu3x34) rfl (by kernel_rfl) (by kernel_rfl) (by kernel_rfl) (fun _ _ _ h => h) (Or.inl ⟨by rfl, ?hyu3x34⟩) hHeld1 ?restu3x34
              case hyu3x34 => first | (intro w hSw; (try dsimp only at hSw); go_simp; done) | (intro w hSw; (try dsimp only at hSw); go_simp; with_reducible rfl)
              (try simp only [Act.put, List.setIfInBounds_toArray, List.set_cons_zero, List.set_cons_succ])
              refine wpAnyH_done (by kernel_rfl) ?_ _
              go_wp2
              go_ret
              exact ⟨rfl, (by repeat (first | with_reducible exact bl_trans HW5.out HB6.out | refine bl_drewN ?_ _ | refine Below.drew ?_))⟩
          obtain ⟨r, hr⟩ : ∃ r, q = r + 1 := ⟨q - 1, by omega⟩
          obtain ⟨pj, hpj⟩ : ∃ j, js[r]? = some j := ⟨js[r]'(by rw [HM.out]; omega), List.getElem?_eq_getElem _⟩
          obtain ⟨bp, op, hA, hbp, p0, p1, p2⟩ := (J.out.below HB.out).at_ r pj hpj
          injection hA with hA
          injection hA with e1 e2
          subst e1 e2
          have hlastq : (js.take q).getLast? = some pj := by rw [hr, List.take_add_one, hpj]; simp
          have HLQ := Lib.hid hlastq
          have r1 : (r : Int) < (m : Int) := by omega
          have r0 : (0 : Int) < (q : Int) := by omega
          have r00 : 0 < q := by omega
          have r2 : IntKind.i64.wrap ((q : Int) - 1) = (r : Int) := by rw [IntWalk.i64_in _ (by omega)]; omega
          clear hr
          obtain ⟨pa, pm, pe⟩ := pj
          dsimp only at p0 p1 p2
          clear hpj hlastq hq0
          have hbj4' := hbj4
          cases hbf : befB ⟨pa, pm, pe⟩ ⟨(x : Int), tm, ne⟩
          · have HBF := Lib.hid hbf
            obtain rfl : b = false := by
              rw [← HR.out]
              exact jobs_bad HS.out HJ.out HP.out (by rw [HNX.out, HLQ.out]; simp [hbf])
            clear hbf
            go_wp2_with fail
            have s0 : (w4.alloc (.cells #[.int .i64 (x : Int), .int .i64 tm, .int .i64 ne] 46)).cell? ⟨w4.heap.size, 0, none⟩ = some (.int .i64 (x : Int)) := (Blk.new w4 46 #[.int .i64 (x : Int), .int .i64 tm, .int .i64 ne]).cell 0
            have s1 : (w4.alloc (.cells #[.int .i64 (x : Int), .int .i64 tm, .int .i64 ne] 46)).cell? ⟨w4.heap.size, 1, none⟩ = some (.int .i64 tm) := (Blk.new w4 46 #[.int .i64 (x : Int), .int .i64 tm, .int .i64 ne]).cell 1
            have s2 : (w4.alloc (.cells #[.int .i64 (x : Int), .int .i64 tm, .int .i64 ne] 46)).cell? ⟨w4.heap.size, 2, none⟩ = some (.int .i64 ne) := (Blk.new w4 46 #[.int .i64 (x : Int), .int .i64 tm, .int .i64 ne]).cell 2
            have s3 : (w4.alloc (.cells #[.int .i64 (x : Int), .int .i64 tm, .int .i64 ne] 46)).cell? ⟨bj, oj + r * 3, none⟩ = some (.int .i64 pa) := (World.cell?_alloc_lt w4 _ ⟨bj, oj + r * 3, none⟩ hbj4).trans p0
            have s4 : (w4.alloc (.cells #[.int .i64 (x : Int), .int .i64 tm, .int .i64 ne] 46)).cell? ⟨bj, oj + r * 3 + 1, none⟩ = some (.int .i64 pm) := (World.cell?_alloc_lt w4 _ ⟨bj, oj + r * 3 + 1, none⟩ hbj4).trans p1
            have s5 : (w4.alloc (.cells #[.int .i64 (x : Int), .int .i64 tm, .int .i64 ne] 46)).cell? ⟨bj, oj + r * 3 + 2, none⟩ = some (.int .i64 pe) := (World.cell?_alloc_lt w4 _ ⟨bj, oj + r * 3 + 2, none⟩ hbj4).trans p2
            have HW5 := Lib.hid (show Below w.heap.size w (w4.alloc (.cells #[.int .i64 (x : Int), .int .i64 tm, .int .i64 ne] 46)) from bl_alloc HB.out _)
            have hz5 : w4.heap.size < (w4.alloc (.cells #[.int .i64 (x : Int), .int .i64 tm, .int .i64 ne] 46)).heap.size := by simp
            generalize (w4.alloc (.cells #[.int .i64 (x : Int), .int .i64 tm, .int .i64 ne] 46)) = w5 at *
            have HC := Lib.hid (And.intro s0 (And.intro s1 (And.intro s2 (And.intro s3 (And.intro s4 (s5))))))
            clear s0 s1 s2 s3 s4 s5
            refine wp_region_held_drew (S := (fun W => W.cell? ⟨w4.heap.size, 0, none⟩ = some (.int .i64 (x : Int)) ∧ W.cell? ⟨w4.heap.size, 1, none⟩ = some (.int .i64 tm) ∧ W.cell? ⟨w4.heap.size, 2, none⟩ = some (.int .i64 ne) ∧ W.cell? ⟨bj, oj + r * 3, none⟩ = some (.int .i64 pa) ∧ W.cell? ⟨bj, oj + r * 3 + 1, none⟩ = some (.int .i64 pm) ∧ W.cell? ⟨bj, oj + r * 3 + 2, none⟩ = some (.int .i64 pe))) (by kernel_rfl) (by exact HC.out) (fun hHeld0 => ?_)
            refine wpAnyH_take (i := 0) (oi := { dst := some 39, op := .move (.tmp 0), type := 23, pos := "l6_jobs.go:24", after := #[], guard := none }) (v := ?vu4x0) rfl (by kernel_rfl) (by kernel_rfl) (by kernel_rfl) (fun _ _ _ h => h) (Or.inl ⟨by rfl, ?hyu4x0⟩) hHeld0 ?restu4x0
            case hyu4x0 => first | (intro w hSw; (try dsimp only at hSw); go_simp; done) | (intro w hSw; (try dsimp only at hSw); go_simp; with_reducible rfl)
            (try simp only [Act.put, List.setIfInBounds_toArray, List.set_cons_zero, List.set_cons_succ])
            refine wpAnyH_take (i := 1) (oi := { dst := some 40, op := .load 46 (.tmp 8), type := 46, pos := "l6_jobs.go:24", after := #[], guard := none }) (v := ?vu4x1) rfl (by kernel_rfl) (by kernel_rfl) (by kernel_rfl) (fun _ _ _ h => h) (Or.inl ⟨by rfl, ?hyu4x1⟩) hHeld0 ?restu4x1
            case hyu4x1 => first | (intro w hSw; (try dsimp only at hSw); go_simp; done) | (intro w hSw; (try dsimp only at hSw); go_simp; with_reducible rfl)
            (try simp only [Act.put, List.setIfInBounds_toArray, List.set_cons_zero, List.set_cons_succ])
            refine wpAnyH_ready (rs := [2]) (by kernel_rfl) (by simp) ?_
            refine AllReadyH.cons (o := { dst := some 41, op := .call { callee := .value (.func 100), args := #[.tmp 39, .tmp 40], argTypes := #[23, 46] }, type := 4, pos := "l6_jobs.go:24", after := #[⟨0, .data⟩, ⟨1, .data⟩], guard := none }) rfl (fun K hK => ?_) AllReadyH.nil
            go_simp
            (have uu := HW5; clear uu; go_at_call 100; refine (sJob_is _ (some ⟨bt, ot, none⟩) k c ts ((H.out.below (by repeat (first | with_reducible exact HW5.out | with_reducible refine bl_drewN ?_ _ | with_reducible refine Below.drew ?_) : Below w.heap.size w _)).more (Below.size (by repeat (first | with_reducible exact HW5.out | with_reducible refine bl_drewN ?_ _ | with_reducible refine Below.drew ?_) : Below w.heap.size w _))) ⟨(x : Int), tm, ne⟩ true HJB.out).mono ?_; rintro e w6 ⟨rfl, hb⟩; have HB6 := Lib.hid (show Below w5.heap.size w5 w6 from bl_trans (by repeat (first | with_reducible exact Below.refl _ _ | with_reducible refine bl_drewN ?_ _ | with_reducible refine Below.drew ?_)) hb); clear hb)
            (try go_wp2_with fail)
            refine hK.out _ _ (by exact And.intro ((HB6.out.cell (p := ⟨w4.heap.size, 0, none⟩) hz5).trans (HC.out.1)) (And.intro ((HB6.out.cell (p := ⟨w4.heap.size, 1, none⟩) hz5).trans (HC.out.2.1)) (And.intro ((HB6.out.cell (p := ⟨w4.heap.size, 2, none⟩) hz5).trans (HC.out.2.2.1)) (And.intro ((HB6.out.cell (p := ⟨bj, oj + r * 3, none⟩) (Nat.lt_trans hbj4' hz5)).trans (HC.out.2.2.2.1)) (And.intro ((HB6.out.cell (p := ⟨bj, oj + r * 3 + 1, none⟩) (Nat.lt_trans hbj4' hz5)).trans (HC.out.2.2.2.2.1)) (((HB6.out.cell (p := ⟨bj, oj + r * 3 + 2, none⟩) (Nat.lt_trans hbj4' hz5)).trans (HC.out.2.2.2.2.2)))))))) (fun hHeld1 => ?_)
            clear hK K
            (try simp only [Act.put, List.setIfInBounds_toArray, List.set_cons_zero, List.set_cons_succ])
            refine wpAnyH_take (i := 3) (oi := { dst := some 42, op := .unOp .not 4 (.tmp 41), type := 4, pos := "l6_jobs.go:24", after := #[⟨2, .data⟩], guard := none }) (v := ?vu4x3) rfl (by kernel_rfl) (by kernel_rfl) (by kernel_rfl) (fun _ _ _ h => h) (Or.inl ⟨by rfl, ?hyu4x3⟩) hHeld1 ?restu4x3
            case hyu4x3 => first | (intro w hSw; (try dsimp only at hSw); go_simp; done) | (intro w hSw; (try dsimp only at hSw); go_simp; with_reducible rfl)
            (try simp only [Act.put, List.setIfInBounds_toArray, List.set_cons_zero, List.set_cons_succ])
            refine wpAnyH_take (i := 4) (oi := { dst := some 43, op := .move (.tmp 42), type := 4, pos := "l6_jobs.go:24", after := #[⟨3, .data⟩, ⟨2, .chain⟩], guard := none }) (v := ?vu4x4) rfl (by kernel_rfl) (by kernel_rfl) (by kernel_rfl) (fun _ _ _ h => h) (Or.inl ⟨by rfl, ?hyu4x4⟩) hHeld1 ?restu4x4
            case hyu4x4 => first | (intro w hSw; (try dsimp only at hSw); go_simp; done) | (intro w hSw; (try dsimp only at hSw); go_simp; with_reducible rfl)
            (try simp only [Act.put, List.setIfInBounds_toArray, List.set_cons_zero, List.set_cons_succ])
            refine wpAnyH_take (i := 5) (oi := { dst := some 44, op := .move (.tmp 7), type := 3, pos := "l6_jobs.go:24", after := #[⟨4, .guard⟩], guard := some (4, false) }) (v := ?vu4x5) rfl (by kernel_rfl) (by kernel_rfl) (by kernel_rfl) (fun _ _ _ h => h) (Or.inl ⟨by rfl, ?hyu4x5⟩) hHeld1 ?restu4x5
            case hyu4x5 => first | (intro w hSw; (try dsimp only at hSw); go_simp; done) | (intro w hSw; (try dsimp only at hSw); go_simp; with_reducible rfl)
            (try simp only [Act.put, List.setIfInBounds_toArray, List.set_cons_zero, List.set_cons_succ])
            refine wpAnyH_take (i := 6) (oi := { dst := some 45, op := .binOp .gtr 3 (.tmp 44) (.const (.int .i64 0)) 3, type := 4, pos := "l6_jobs.go:24", after := #[⟨5, .data⟩, ⟨4, .guard⟩], guard := some (4, false) }) (v := ?vu4x6) rfl (by kernel_rfl) (by kernel_rfl) (by kernel_rfl) (fun _ _ _ h => h) (Or.inl ⟨by rfl, ?hyu4x6⟩) hHeld1 ?restu4x6
            case hyu4x6 => first | (intro w hSw; (try dsimp only at hSw); go_simp; done) | (intro w hSw; (try dsimp only at hSw); go_simp; with_reducible rfl)
            (try simp only [Act.put, List.setIfInBounds_toArray, List.set_cons_zero, List.set_cons_succ])
            refine wpAnyH_take (i := 7) (oi := { dst := some 46, op := .move (.tmp 45), type := 4, pos := "l6_jobs.go:24", after := #[⟨6, .data⟩, ⟨4, .chain⟩, ⟨4, .guard⟩], guard := some (4, false) }) (v := ?vu4x7) rfl (by kernel_rfl) (by kernel_rfl) (by kernel_rfl) (fun _ _ _ h => h) (Or.inl ⟨by rfl, ?hyu4x7⟩) hHeld1 ?restu4x7
            case hyu4x7 => first | (intro w hSw; (try dsimp only at hSw); go_simp; done) | (intro w hSw; (try dsimp only at hSw); go_simp; with_reducible rfl)
            (try simp only [Act.put, List.setIfInBounds_toArray, List.set_cons_zero, List.set_cons_succ])
            refine wpAnyH_take (i := 8) (oi := { dst := some 47, op := .move (.tmp 1), type := 24, pos := "l6_jobs.go:24", after := #[⟨7, .guard⟩], guard := some (7, true) }) (v := ?vu4x8) rfl (by kernel_rfl) (by kernel_rfl) (by kernel_rfl) (fun _ _ _ h => h) (Or.inl ⟨by rfl, ?hyu4x8⟩) hHeld1 ?restu4x8
            case hyu4x8 => first | (intro w hSw; (try dsimp only at hSw); go_simp; done) | (intro w hSw; (try dsimp only at hSw); go_simp; with_reducible rfl)
            (try simp only [Act.put, List.setIfInBounds_toArray, List.set_cons_zero, List.set_cons_succ])
            refine wpAnyH_take (i := 9) (oi := { dst := some 48, op := .move (.tmp 7), type := 3, pos := "l6_jobs.go:24", after := #[⟨7, .guard⟩], guard := some (7, true) }) (v := ?vu4x9) rfl (by kernel_rfl) (by kernel_rfl) (by kernel_rfl) (fun _ _ _ h => h) (Or.inl ⟨by rfl, ?hyu4x9⟩) hHeld1 ?restu4x9
            case hyu4x9 => first | (intro w hSw; (try dsimp only at hSw); go_simp; done) | (intro w hSw; (try dsimp only at hSw); go_simp; with_reducible rfl)
            (try simp only [Act.put, List.setIfInBounds_toArray, List.set_cons_zero, List.set_cons_succ])
            refine wpAnyH_take (i := 10) (oi := { dst := some 49, op := .binOp .sub 3 (.tmp 48) (.const (.int .i64 1)) 3, type := 3, pos := "l6_jobs.go:24", after := #[⟨9, .data⟩, ⟨7, .guard⟩], guard := some (7, true) }) (v := ?vu4x10) rfl (by kernel_rfl) (by kernel_rfl) (by kernel_rfl) (fun _ _ _ h => h) (Or.inl ⟨by rfl, ?hyu4x10⟩) hHeld1 ?restu4x10
            case hyu4x10 => first | (intro w hSw; (try dsimp only at hSw); go_simp; done) | (intro w hSw; (try dsimp only at hSw); go_simp; with_reducible rfl)
            (try simp only [Act.put, List.setIfInBounds_toArray, List.set_cons_zero, List.set_cons_succ])
            refine wpAnyH_take (i := 11) (oi := { dst := some 50, op := .indexAddr 24 (.tmp 47) (.tmp 49), type := 0, pos := "l6_jobs.go:24", after := #[⟨8, .data⟩, ⟨10, .data⟩, ⟨7, .guard⟩], guard := some (7, true) }) (v := ?vu4x11) rfl (by kernel_rfl) (by kernel_rfl) (by kernel_rfl) (fun _ _ _ h => h) (Or.inl ⟨by rfl, ?hyu4x11⟩) hHeld1 ?restu4x11
            case hyu4x11 => first | (intro w hSw; (try dsimp only at hSw); go_simp; done) | (intro w hSw; (try dsimp only at hSw); go_simp; with_reducible rfl)
            (try simp only [Act.put, List.setIfInBounds_toArray, List.set_cons_zero, List.set_cons_succ])
            refine wpAnyH_take (i := 12) (oi := { dst := some 51, op := .load 46 (.tmp 50), type := 46, pos := "l6_jobs.go:24", after := #[⟨11, .data⟩, ⟨7, .guard⟩], guard := some (7, true) }) (v := ?vu4x12) rfl (by kernel_rfl) (by kernel_rfl) (by kernel_rfl) (fun _ _ _ h => h) (Or.inl ⟨by rfl, ?hyu4x12⟩) hHeld1 ?restu4x12
            case hyu4x12 => first | (intro w hSw; (try dsimp only at hSw); go_simp; done) | (intro w hSw; (try dsimp only at hSw); go_simp; with_reducible rfl)
            (try simp only [Act.put, List.setIfInBounds_toArray, List.set_cons_zero, List.set_cons_succ])
            refine wpAnyH_take (i := 13) (oi := { dst := some 52, op := .load 46 (.tmp 8), type := 46, pos := "l6_jobs.go:24", after := #[⟨7, .guard⟩], guard := some (7, true) }) (v := ?vu4x13) rfl (by kernel_rfl) (by kernel_rfl) (by kernel_rfl) (fun _ _ _ h => h) (Or.inl ⟨by rfl, ?hyu4x13⟩) hHeld1 ?restu4x13
            case hyu4x13 => first | (intro w hSw; (try dsimp only at hSw); go_simp; done) | (intro w hSw; (try dsimp only at hSw); go_simp; with_reducible rfl)
            (try simp only [Act.put, List.setIfInBounds_toArray, List.set_cons_zero, List.set_cons_succ])
            refine wpAnyH_ready (rs := [14]) (by kernel_rfl) (by simp) ?_
            refine AllReadyH.cons (o := { dst := some 53, op := .call { callee := .value (.func 101), args := #[.tmp 51, .tmp 52], argTypes := #[46, 46] }, type := 4, pos := "l6_jobs.go:24", after := #[⟨12, .data⟩, ⟨13, .data⟩, ⟨7, .chain⟩, ⟨7, .guard⟩], guard := some (7, true) }) rfl (fun K hK => ?_) AllReadyH.nil
            go_simp
            (have uu := HB6; clear uu; go_at_call 101; refine (sBef_is _ ⟨pa, pm, pe⟩ ⟨(x : Int), tm, ne⟩ false HBF.out).mono ?_; rintro e w7 ⟨rfl, hb⟩; have HB7 := Lib.hid (show Below w5.heap.size w5 w7 from bl_trans (by repeat (first | with_reducible exact HB6.out | with_reducible refine bl_drewN ?_ _ | with_reducible refine Below.drew ?_)) hb); clear hb)
            (try go_wp2_with fail)
            refine hK.out _ _ (by exact And.intro ((HB7.out.cell (p := ⟨w4.heap.size, 0, none⟩) hz5).trans (HC.out.1)) (And.intro ((HB7.out.cell (p := ⟨w4.heap.size, 1, none⟩) hz5).trans (HC.out.2.1)) (And.intro ((HB7.out.cell (p := ⟨w4.heap.size, 2, none⟩) hz5).trans (HC.out.2.2.1)) (And.intro ((HB7.out.cell (p := ⟨bj, oj + r * 3, none⟩) (Nat.lt_trans hbj4' hz5)).trans (HC.out.2.2.2.1)) (And.intro ((HB7.out.cell (p := ⟨bj, oj + r * 3 + 1, none⟩) (Nat.lt_trans hbj4' hz5)).trans (HC.out.2.2.2.2.1)) (((HB7.out.cell (p := ⟨bj, oj + r * 3 + 2, none⟩) (Nat.lt_trans hbj4' hz5)).trans (HC.out.2.2.2.2.2)))))))) (fun hHeld2 => ?_)
            clear hK K
            (try simp only [Act.put, List.setIfInBounds_toArray, List.set_cons_zero, List.set_cons_succ])
            refine wpAnyH_take (i := 15) (oi := { dst := some 54, op := .unOp .not 4 (.tmp 53), type := 4, pos := "l6_jobs.go:24", after := #[⟨14, .data⟩, ⟨7, .guard⟩], guard := some (7, true) }) (v := ?vu4x15) rfl (by kernel_rfl) (by kernel_rfl) (by kernel_rfl) (fun _ _ _ h => h) (Or.inl ⟨by rfl, ?hyu4x15⟩) hHeld2 ?restu4x15
            case hyu4x15 => first | (intro w hSw; (try dsimp only at hSw); go_simp; done) | (intro w hSw; (try dsimp only at hSw); go_simp; with_reducible rfl)
            (try simp only [Act.put, List.setIfInBounds_toArray, List.set_cons_zero, List.set_cons_succ])
            refine wpAnyH_take (i := 16) (oi := { dst := some 55, op := .pick (.tmp 46) (.tmp 54) (.const (.bool false)), type := 4, pos := "l6_jobs.go:24", after := #[⟨7, .data⟩, ⟨15, .data⟩, ⟨4, .guard⟩], guard := some (4, false) }) (v := ?vu4x16) rfl (by kernel_rfl) (by kernel_rfl) (by kernel_rfl) (fun _ _ _ h => h) (Or.inl ⟨by rfl, ?hyu4x16⟩) hHeld2 ?restu4x16
            case hyu4x16 => first | (intro w hSw; (try dsimp only at hSw); go_simp; done) | (intro w hSw; (try dsimp only at hSw); go_simp; with_reducible rfl)
            (try simp only [Act.put, List.setIfInBounds_toArray, List.set_cons_zero, List.set_cons_succ])
            refine wpAnyH_take (i := 17) (oi := { dst := some 56, op := .pick (.tmp 43) (.const (.bool true)) (.tmp 55), type := 4, pos := "l6_jobs.go:24", after := #[⟨4, .data⟩, ⟨16, .data⟩], guard := none }) (v := ?vu4x17) rfl (by kernel_rfl) (by kernel_rfl) (by kernel_rfl) (fun _ _ _ h => h) (Or.inl ⟨by rfl, ?hyu4x17⟩) hHeld2 ?restu4x17
            case hyu4x17 => first | (intro w hSw; (try dsimp only at hSw); go_simp; done) | (intro w hSw; (try dsimp only at hSw); go_simp; with_reducible rfl)
            (try simp only [Act.put, List.setIfInBounds_toArray, List.set_cons_zero, List.set_cons_succ])
            refine wpAnyH_take (i := 18) (oi := { dst := some 57, op := .move (.tmp 56), type := 4, pos := "l6_jobs.go:24", after := #[⟨17, .data⟩, ⟨14, .chain⟩], guard := none }) (v := ?vu4x18) rfl (by kernel_rfl) (by kernel_rfl) (by kernel_rfl) (fun _ _ _ h => h) (Or.inl ⟨by rfl, ?hyu4x18⟩) hHeld2 ?restu4x18
            case hyu4x18 => first | (intro w hSw; (try dsimp only at hSw); go_simp; done) | (intro w hSw; (try dsimp only at hSw); go_simp; with_reducible rfl)
            (try simp only [Act.put, List.setIfInBounds_toArray, List.set_cons_zero, List.set_cons_succ])
            refine wpAnyH_take (i := 19) (oi := { dst := some 58, op := .fieldAddr 46 (.tmp 8) 1, type := 0, pos := "l6_jobs.go:24", after := #[⟨18, .guard⟩], guard := some (18, false) }) (v := undef) rfl (by kernel_rfl) (by kernel_rfl) (by kernel_rfl) (fun _ _ _ h => h) (Or.inr ⟨by rfl, by rfl⟩) hHeld2 ?_
            (try simp only [Act.put, List.setIfInBounds_toArray, List.set_cons_zero, List.set_cons_succ])
            refine wpAnyH_take (i := 20) (oi := { dst := some 59, op := .load 3 (.tmp 58), type := 3, pos := "l6_jobs.go:24", after := #[⟨19, .data⟩, ⟨18, .guard⟩], guard := some (18, false) }) (v := undef) rfl (by kernel_rfl) (by kernel_rfl) (by kernel_rfl) (fun _ _ _ h => h) (Or.inr ⟨by rfl, by rfl⟩) hHeld2 ?_
            (try simp only [Act.put, List.setIfInBounds_toArray, List.set_cons_zero, List.set_cons_succ])
            refine wpAnyH_take (i := 21) (oi := { dst := some 60, op := .move (.tmp 5), type := 27, pos := "l6_jobs.go:24", after := #[⟨18, .guard⟩], guard := some (18, false) }) (v := undef) rfl (by kernel_rfl) (by kernel_rfl) (by kernel_rfl) (fun _ _ _ h => h) (Or.inr ⟨by rfl, by rfl⟩) hHeld2 ?_
            (try simp only [Act.put, List.setIfInBounds_toArray, List.set_cons_zero, List.set_cons_succ])
            refine wpAnyH_take (i := 22) (oi := { dst := some 61, op := .fieldAddr 46 (.tmp 8) 0, type := 0, pos := "l6_jobs.go:24", after := #[⟨18, .guard⟩], guard := some (18, false) }) (v := undef) rfl (by kernel_rfl) (by kernel_rfl) (by kernel_rfl) (fun _ _ _ h => h) (Or.inr ⟨by rfl, by rfl⟩) hHeld2 ?_
            (try simp only [Act.put, List.setIfInBounds_toArray, List.set_cons_zero, List.set_cons_succ])
            refine wpAnyH_take (i := 23) (oi := { dst := some 62, op := .load 3 (.tmp 61), type := 3, pos := "l6_jobs.go:24", after := #[⟨22, .data⟩, ⟨18, .guard⟩], guard := some (18, false) }) (v := undef) rfl (by kernel_rfl) (by kernel_rfl) (by kernel_rfl) (fun _ _ _ h => h) (Or.inr ⟨by rfl, by rfl⟩) hHeld2 ?_
            (try simp only [Act.put, List.setIfInBounds_toArray, List.set_cons_zero, List.set_cons_succ])
            refine wpAnyH_take (i := 24) (oi := { dst := some 63, op := .indexAddr 27 (.tmp 60) (.tmp 62), type := 0, pos := "l6_jobs.go:24", after := #[⟨21, .data⟩, ⟨23, .data⟩, ⟨18, .guard⟩], guard := some (18, false) }) (v := undef) rfl (by kernel_rfl) (by kernel_rfl) (by kernel_rfl) (fun _ _ _ h => h) (Or.inr ⟨by rfl, by rfl⟩) hHeld2 ?_
            (try simp only [Act.put, List.setIfInBounds_toArray, List.set_cons_zero, List.set_cons_succ])
            refine wpAnyH_take (i := 25) (oi := { dst := some 64, op := .load 3 (.tmp 63), type := 3, pos := "l6_jobs.go:24", after := #[⟨24, .data⟩, ⟨18, .guard⟩], guard := some (18, false) }) (v := undef) rfl (by kernel_rfl) (by kernel_rfl) (by kernel_rfl) (fun _ _ _ h => h) (Or.inr ⟨by rfl, by rfl⟩) hHeld2 ?_
            (try simp only [Act.put, List.setIfInBounds_toArray, List.set_cons_zero, List.set_cons_succ])
            refine wpAnyH_take (i := 26) (oi := { dst := some 65, op := .binOp .sub 3 (.tmp 59) (.tmp 64) 3, type := 3, pos := "l6_jobs.go:24", after := #[⟨20, .data⟩, ⟨25, .data⟩, ⟨18, .guard⟩], guard := some (18, false) }) (v := undef) rfl (by kernel_rfl) (by kernel_rfl) (by kernel_rfl) (fun _ _ _ h => h) (Or.inr ⟨by rfl, by rfl⟩) hHeld2 ?_
            (try simp only [Act.put, List.setIfInBounds_toArray, List.set_cons_zero, List.set_cons_succ])
            refine wpAnyH_take (i := 27) (oi := { dst := some 66, op := .move (.tmp 0), type := 23, pos := "l6_jobs.go:24", after := #[⟨18, .guard⟩], guard := some (18, false) }) (v := undef) rfl (by kernel_rfl) (by kernel_rfl) (by kernel_rfl) (fun _ _ _ h => h) (Or.inr ⟨by rfl, by rfl⟩) hHeld2 ?_
            (try simp only [Act.put, List.setIfInBounds_toArray, List.set_cons_zero, List.set_cons_succ])
            refine wpAnyH_take (i := 28) (oi := { dst := some 67, op := .fieldAddr 46 (.tmp 8) 0, type := 0, pos := "l6_jobs.go:24", after := #[⟨18, .guard⟩], guard := some (18, false) }) (v := undef) rfl (by kernel_rfl) (by kernel_rfl) (by kernel_rfl) (fun _ _ _ h => h) (Or.inr ⟨by rfl, by rfl⟩) hHeld2 ?_
            (try simp only [Act.put, List.setIfInBounds_toArray, List.set_cons_zero, List.set_cons_succ])
            refine wpAnyH_take (i := 29) (oi := { dst := some 68, op := .load 3 (.tmp 67), type := 3, pos := "l6_jobs.go:24", after := #[⟨28, .data⟩, ⟨18, .guard⟩], guard := some (18, false) }) (v := undef) rfl (by kernel_rfl) (by kernel_rfl) (by kernel_rfl) (fun _ _ _ h => h) (Or.inr ⟨by rfl, by rfl⟩) hHeld2 ?_
            (try simp only [Act.put, List.setIfInBounds_toArray, List.set_cons_zero, List.set_cons_succ])
            refine wpAnyH_take (i := 30) (oi := { dst := some 69, op := .indexAddr 23 (.tmp 66) (.tmp 68), type := 0, pos := "l6_jobs.go:24", after := #[⟨27, .data⟩, ⟨29, .data⟩, ⟨18, .guard⟩], guard := some (18, false) }) (v := undef) rfl (by kernel_rfl) (by kernel_rfl) (by kernel_rfl) (fun _ _ _ h => h) (Or.inr ⟨by rfl, by rfl⟩) hHeld2 ?_
            (try simp only [Act.put, List.setIfInBounds_toArray, List.set_cons_zero, List.set_cons_succ])
            refine wpAnyH_take (i := 31) (oi := { dst := some 70, op := .fieldAddr 43 (.tmp 69) 3, type := 0, pos := "l6_jobs.go:24", after := #[⟨30, .data⟩, ⟨18, .guard⟩], guard := some (18, false) }) (v := undef) rfl (by kernel_rfl) (by kernel_rfl) (by kernel_rfl) (fun _ _ _ h => h) (Or.inr ⟨by rfl, by rfl⟩) hHeld2 ?_
            (try simp only [Act.put, List.setIfInBounds_toArray, List.set_cons_zero, List.set_cons_succ])
            refine wpAnyH_take (i := 32) (oi := { dst := some 71, op := .load 3 (.tmp 70), type := 3, pos := "l6_jobs.go:24", after := #[⟨31, .data⟩, ⟨18, .guard⟩], guard := some (18, false) }) (v := undef) rfl (by kernel_rfl) (by kernel_rfl) (by kernel_rfl) (fun _ _ _ h => h) (Or.inr ⟨by rfl, by rfl⟩) hHeld2 ?_
            (try simp only [Act.put, List.setIfInBounds_toArray, List.set_cons_zero, List.set_cons_succ])
            refine wpAnyH_take (i := 33) (oi := { dst := some 72, op := .binOp .lss 3 (.tmp 65) (.tmp 71) 3, type := 4, pos := "l6_jobs.go:24", after := #[⟨26, .data⟩, ⟨32, .data⟩, ⟨18, .guard⟩], guard := some (18, false) }) (v := undef) rfl (by kernel_rfl) (by kernel_rfl) (by kernel_rfl) (fun _ _ _ h => h) (Or.inr ⟨by rfl, by rfl⟩) hHeld2 ?_
            (try simp only [Act.put, List.setIfInBounds_toArray, List.set_cons_zero, List.set_cons_succ])
            refine wpAnyH_take (i := 34) (oi := { dst := some 73, op := .pick (.tmp 57) (.const (.bool true)) (.tmp 72), type := 4, pos := "l6_jobs.go:24", after := #[⟨18, .data⟩, ⟨33, .data⟩], guard := none }) (v := ?vu4x34) rfl (by kernel_rfl) (by kernel_rfl) (by kernel_rfl) (fun _ _ _ h => h) (Or.inl ⟨by rfl, ?hyu4x34⟩) hHeld2 ?restu4x34
            case hyu4x34 => first | (intro w hSw; (try dsimp only at hSw); go_simp; done) | (intro w hSw; (try dsimp only at hSw); go_simp; with_reducible rfl)
            (try simp only [Act.put, List.setIfInBounds_toArray, List.set_cons_zero, List.set_cons_succ])
            refine wpAnyH_done (by kernel_rfl) ?_ _
            go_wp2
            go_ret
            exact ⟨rfl, (by repeat (first | with_reducible exact bl_trans HW5.out HB7.out | refine bl_drewN ?_ _ | refine Below.drew ?_))⟩
          have HBF := Lib.hid hbf
          clear hbf
          by_cases hd : ev ≤ tm - la
          · skip
            have HNT := Lib.hid (show nextB ts (js.take q) ⟨(x : Int), tm, ne⟩ = true by rw [HNX.out, show ((js.take q).getLast?.map fun a => befB a ⟨(x : Int), tm, ne⟩).getD true = true by rw [HLQ.out]; exact HBF.out, Bool.true_and, HLA.out]; exact decide_eq_true hd)
            have dd : decide (tm - la < ev) = false := by simp; omega
            clear hd
            go_wp2_with fail
            have HBQ5 := Lib.hid (show Blk (w4.alloc (.cells #[.int .i64 (x : Int), .int .i64 tm, .int .i64 ne] 46)) w1.heap.size 3 (lastV k (js.take q)).toArray from BQ.out.alloc _)
            have s0 : (w4.alloc (.cells #[.int .i64 (x : Int), .int .i64 tm, .int .i64 ne] 46)).cell? ⟨w4.heap.size, 0, none⟩ = some (.int .i64 (x : Int)) := (Blk.new w4 46 #[.int .i64 (x : Int), .int .i64 tm, .int .i64 ne]).cell 0
            have s1 : (w4.alloc (.cells #[.int .i64 (x : Int), .int .i64 tm, .int .i64 ne] 46)).cell? ⟨w4.heap.size, 1, none⟩ = some (.int .i64 tm) := (Blk.new w4 46 #[.int .i64 (x : Int), .int .i64 tm, .int .i64 ne]).cell 1
            have s2 : (w4.alloc (.cells #[.int .i64 (x : Int), .int .i64 tm, .int .i64 ne] 46)).cell? ⟨w4.heap.size, 2, none⟩ = some (.int .i64 ne) := (Blk.new w4 46 #[.int .i64 (x : Int), .int .i64 tm, .int .i64 ne]).cell 2
            have s3 : (w4.alloc (.cells #[.int .i64 (x : Int), .int .i64 tm, .int .i64 ne] 46)).cell? ⟨bj, oj + r * 3, none⟩ = some (.int .i64 pa) := (World.cell?_alloc_lt w4 _ ⟨bj, oj + r * 3, none⟩ hbj4).trans p0
            have s4 : (w4.alloc (.cells #[.int .i64 (x : Int), .int .i64 tm, .int .i64 ne] 46)).cell? ⟨bj, oj + r * 3 + 1, none⟩ = some (.int .i64 pm) := (World.cell?_alloc_lt w4 _ ⟨bj, oj + r * 3 + 1, none⟩ hbj4).trans p1
            have s5 : (w4.alloc (.cells #[.int .i64 (x : Int), .int .i64 tm, .int .i64 ne] 46)).cell? ⟨bj, oj + r * 3 + 2, none⟩ = some (.int .i64 pe) := (World.cell?_alloc_lt w4 _ ⟨bj, oj + r * 3 + 2, none⟩ hbj4).trans p2
            have s6 : (w4.alloc (.cells #[.int .i64 (x : Int), .int .i64 tm, .int .i64 ne] 46)).cell? ⟨w1.heap.size, x, none⟩ = some (.int .i64 la) := (World.cell?_alloc_lt w4 _ ⟨w1.heap.size, x, none⟩ hgl).trans lx
            have s7 : (w4.alloc (.cells #[.int .i64 (x : Int), .int .i64 tm, .int .i64 ne] 46)).cell? ⟨bt, ot + x * 5 + 3, none⟩ = some (.int .i64 ev) := (World.cell?_alloc_lt w4 _ ⟨bt, ot + x * 5 + 3, none⟩ hbt4).trans t3
            have HW5 := Lib.hid (show Below w.heap.size w (w4.alloc (.cells #[.int .i64 (x : Int), .int .i64 tm, .int .i64 ne] 46)) from bl_alloc HB.out _)
            have hz5 : w4.heap.size < (w4.alloc (.cells #[.int .i64 (x : Int), .int .i64 tm, .int .i64 ne] 46)).heap.size := by simp
            generalize (w4.alloc (.cells #[.int .i64 (x : Int), .int .i64 tm, .int .i64 ne] 46)) = w5 at *
            have HC := Lib.hid (And.intro s0 (And.intro s1 (And.intro s2 (And.intro s3 (And.intro s4 (And.intro s5 (And.intro s6 (s7))))))))
            clear s0 s1 s2 s3 s4 s5 s6 s7
            refine wp_region_held_drew (S := (fun W => W.cell? ⟨w4.heap.size, 0, none⟩ = some (.int .i64 (x : Int)) ∧ W.cell? ⟨w4.heap.size, 1, none⟩ = some (.int .i64 tm) ∧ W.cell? ⟨w4.heap.size, 2, none⟩ = some (.int .i64 ne) ∧ W.cell? ⟨bj, oj + r * 3, none⟩ = some (.int .i64 pa) ∧ W.cell? ⟨bj, oj + r * 3 + 1, none⟩ = some (.int .i64 pm) ∧ W.cell? ⟨bj, oj + r * 3 + 2, none⟩ = some (.int .i64 pe) ∧ W.cell? ⟨w1.heap.size, x, none⟩ = some (.int .i64 la) ∧ W.cell? ⟨bt, ot + x * 5 + 3, none⟩ = some (.int .i64 ev))) (by kernel_rfl) (by exact HC.out) (fun hHeld0 => ?_)
            refine wpAnyH_take (i := 0) (oi := { dst := some 39, op := .move (.tmp 0), type := 23, pos := "l6_jobs.go:24", after := #[], guard := none }) (v := ?vu5x0) rfl (by kernel_rfl) (by kernel_rfl) (by kernel_rfl) (fun _ _ _ h => h) (Or.inl ⟨by rfl, ?hyu5x0⟩) hHeld0 ?restu5x0
            case hyu5x0 => first | (intro w hSw; (try dsimp only at hSw); go_simp; done) | (intro w hSw; (try dsimp only at hSw); go_simp; with_reducible rfl)
            (try simp only [Act.put, List.setIfInBounds_toArray, List.set_cons_zero, List.set_cons_succ])
            refine wpAnyH_take (i := 1) (oi := { dst := some 40, op := .load 46 (.tmp 8), type := 46, pos := "l6_jobs.go:24", after := #[], guard := none }) (v := ?vu5x1) rfl (by kernel_rfl) (by kernel_rfl) (by kernel_rfl) (fun _ _ _ h => h) (Or.inl ⟨by rfl, ?hyu5x1⟩) hHeld0 ?restu5x1
            case hyu5x1 => first | (intro w hSw; (try dsimp only at hSw); go_simp; done) | (intro w hSw; (try dsimp only at hSw); go_simp; with_reducible rfl)
            (try simp only [Act.put, List.setIfInBounds_toArray, List.set_cons_zero, List.set_cons_succ])
            refine wpAnyH_ready (rs := [2]) (by kernel_rfl) (by simp) ?_
            refine AllReadyH.cons (o := { dst := some 41, op := .call { callee := .value (.func 100), args := #[.tmp 39, .tmp 40], argTypes := #[23, 46] }, type := 4, pos := "l6_jobs.go:24", after := #[⟨0, .data⟩, ⟨1, .data⟩], guard := none }) rfl (fun K hK => ?_) AllReadyH.nil
            go_simp
            (have uu := HW5; clear uu; go_at_call 100; refine (sJob_is _ (some ⟨bt, ot, none⟩) k c ts ((H.out.below (by repeat (first | with_reducible exact HW5.out | with_reducible refine bl_drewN ?_ _ | with_reducible refine Below.drew ?_) : Below w.heap.size w _)).more (Below.size (by repeat (first | with_reducible exact HW5.out | with_reducible refine bl_drewN ?_ _ | with_reducible refine Below.drew ?_) : Below w.heap.size w _))) ⟨(x : Int), tm, ne⟩ true HJB.out).mono ?_; rintro e w6 ⟨rfl, hb⟩; have HB6 := Lib.hid (show Below w5.heap.size w5 w6 from bl_trans (by repeat (first | with_reducible exact Below.refl _ _ | with_reducible refine bl_drewN ?_ _ | with_reducible refine Below.drew ?_)) hb); clear hb)
            (try go_wp2_with fail)
            refine hK.out _ _ (by exact And.intro ((HB6.out.cell (p := ⟨w4.heap.size, 0, none⟩) hz5).trans (HC.out.1)) (And.intro ((HB6.out.cell (p := ⟨w4.heap.size, 1, none⟩) hz5).trans (HC.out.2.1)) (And.intro ((HB6.out.cell (p := ⟨w4.heap.size, 2, none⟩) hz5).trans (HC.out.2.2.1)) (And.intro ((HB6.out.cell (p := ⟨bj, oj + r * 3, none⟩) (Nat.lt_trans hbj4' hz5)).trans (HC.out.2.2.2.1)) (And.intro ((HB6.out.cell (p := ⟨bj, oj + r * 3 + 1, none⟩) (Nat.lt_trans hbj4' hz5)).trans (HC.out.2.2.2.2.1)) (And.intro ((HB6.out.cell (p := ⟨bj, oj + r * 3 + 2, none⟩) (Nat.lt_trans hbj4' hz5)).trans (HC.out.2.2.2.2.2.1)) (And.intro ((HB6.out.cell (p := ⟨w1.heap.size, x, none⟩) (Nat.lt_trans hgl hz5)).trans (HC.out.2.2.2.2.2.2.1)) (((HB6.out.cell (p := ⟨bt, ot + x * 5 + 3, none⟩) (Nat.lt_trans hbt4' hz5)).trans (HC.out.2.2.2.2.2.2.2)))))))))) (fun hHeld1 => ?_)
            clear hK K
            (try simp only [Act.put, List.setIfInBounds_toArray, List.set_cons_zero, List.set_cons_succ])
            refine wpAnyH_take (i := 3) (oi := { dst := some 42, op := .unOp .not 4 (.tmp 41), type := 4, pos := "l6_jobs.go:24", after := #[⟨2, .data⟩], guard := none }) (v := ?vu5x3) rfl (by kernel_rfl) (by kernel_rfl) (by kernel_rfl) (fun _ _ _ h => h) (Or.inl ⟨by rfl, ?hyu5x3⟩) hHeld1 ?restu5x3
            case hyu5x3 => first | (intro w hSw; (try dsimp only at hSw); go_simp; done) | (intro w hSw; (try dsimp only at hSw); go_simp; with_reducible rfl)
            (try simp only [Act.put, List.setIfInBounds_toArray, List.set_cons_zero, List.set_cons_succ])
            refine wpAnyH_take (i := 4) (oi := { dst := some 43, op := .move (.tmp 42), type := 4, pos := "l6_jobs.go:24", after := #[⟨3, .data⟩, ⟨2, .chain⟩], guard := none }) (v := ?vu5x4) rfl (by kernel_rfl) (by kernel_rfl) (by kernel_rfl) (fun _ _ _ h => h) (Or.inl ⟨by rfl, ?hyu5x4⟩) hHeld1 ?restu5x4
            case hyu5x4 => first | (intro w hSw; (try dsimp only at hSw); go_simp; done) | (intro w hSw; (try dsimp only at hSw); go_simp; with_reducible rfl)
            (try simp only [Act.put, List.setIfInBounds_toArray, List.set_cons_zero, List.set_cons_succ])
            refine wpAnyH_take (i := 5) (oi := { dst := some 44, op := .move (.tmp 7), type := 3, pos := "l6_jobs.go:24", after := #[⟨4, .guard⟩], guard := some (4, false) }) (v := ?vu5x5) rfl (by kernel_rfl) (by kernel_rfl) (by kernel_rfl) (fun _ _ _ h => h) (Or.inl ⟨by rfl, ?hyu5x5⟩) hHeld1 ?restu5x5
            case hyu5x5 => first | (intro w hSw; (try dsimp only at hSw); go_simp; done) | (intro w hSw; (try dsimp only at hSw); go_simp; with_reducible rfl)
            (try simp only [Act.put, List.setIfInBounds_toArray, List.set_cons_zero, List.set_cons_succ])
            refine wpAnyH_take (i := 6) (oi := { dst := some 45, op := .binOp .gtr 3 (.tmp 44) (.const (.int .i64 0)) 3, type := 4, pos := "l6_jobs.go:24", after := #[⟨5, .data⟩, ⟨4, .guard⟩], guard := some (4, false) }) (v := ?vu5x6) rfl (by kernel_rfl) (by kernel_rfl) (by kernel_rfl) (fun _ _ _ h => h) (Or.inl ⟨by rfl, ?hyu5x6⟩) hHeld1 ?restu5x6
            case hyu5x6 => first | (intro w hSw; (try dsimp only at hSw); go_simp; done) | (intro w hSw; (try dsimp only at hSw); go_simp; with_reducible rfl)
            (try simp only [Act.put, List.setIfInBounds_toArray, List.set_cons_zero, List.set_cons_succ])
            refine wpAnyH_take (i := 7) (oi := { dst := some 46, op := .move (.tmp 45), type := 4, pos := "l6_jobs.go:24", after := #[⟨6, .data⟩, ⟨4, .chain⟩, ⟨4, .guard⟩], guard := some (4, false) }) (v := ?vu5x7) rfl (by kernel_rfl) (by kernel_rfl) (by kernel_rfl) (fun _ _ _ h => h) (Or.inl ⟨by rfl, ?hyu5x7⟩) hHeld1 ?restu5x7
            case hyu5x7 => first | (intro w hSw; (try dsimp only at hSw); go_simp; done) | (intro w hSw; (try dsimp only at hSw); go_simp; with_reducible rfl)
            (try simp only [Act.put, List.setIfInBounds_toArray, List.set_cons_zero, List.set_cons_succ])
            refine wpAnyH_take (i := 8) (oi := { dst := some 47, op := .move (.tmp 1), type := 24, pos := "l6_jobs.go:24", after := #[⟨7, .guard⟩], guard := some (7, true) }) (v := ?vu5x8) rfl (by kernel_rfl) (by kernel_rfl) (by kernel_rfl) (fun _ _ _ h => h) (Or.inl ⟨by rfl, ?hyu5x8⟩) hHeld1 ?restu5x8
            case hyu5x8 => first | (intro w hSw; (try dsimp only at hSw); go_simp; done) | (intro w hSw; (try dsimp only at hSw); go_simp; with_reducible rfl)
            (try simp only [Act.put, List.setIfInBounds_toArray, List.set_cons_zero, List.set_cons_succ])
            refine wpAnyH_take (i := 9) (oi := { dst := some 48, op := .move (.tmp 7), type := 3, pos := "l6_jobs.go:24", after := #[⟨7, .guard⟩], guard := some (7, true) }) (v := ?vu5x9) rfl (by kernel_rfl) (by kernel_rfl) (by kernel_rfl) (fun _ _ _ h => h) (Or.inl ⟨by rfl, ?hyu5x9⟩) hHeld1 ?restu5x9
            case hyu5x9 => first | (intro w hSw; (try dsimp only at hSw); go_simp; done) | (intro w hSw; (try dsimp only at hSw); go_simp; with_reducible rfl)
            (try simp only [Act.put, List.setIfInBounds_toArray, List.set_cons_zero, List.set_cons_succ])
            refine wpAnyH_take (i := 10) (oi := { dst := some 49, op := .binOp .sub 3 (.tmp 48) (.const (.int .i64 1)) 3, type := 3, pos := "l6_jobs.go:24", after := #[⟨9, .data⟩, ⟨7, .guard⟩], guard := some (7, true) }) (v := ?vu5x10) rfl (by kernel_rfl) (by kernel_rfl) (by kernel_rfl) (fun _ _ _ h => h) (Or.inl ⟨by rfl, ?hyu5x10⟩) hHeld1 ?restu5x10
            case hyu5x10 => first | (intro w hSw; (try dsimp only at hSw); go_simp; done) | (intro w hSw; (try dsimp only at hSw); go_simp; with_reducible rfl)
            (try simp only [Act.put, List.setIfInBounds_toArray, List.set_cons_zero, List.set_cons_succ])
            refine wpAnyH_take (i := 11) (oi := { dst := some 50, op := .indexAddr 24 (.tmp 47) (.tmp 49), type := 0, pos := "l6_jobs.go:24", after := #[⟨8, .data⟩, ⟨10, .data⟩, ⟨7, .guard⟩], guard := some (7, true) }) (v := ?vu5x11) rfl (by kernel_rfl) (by kernel_rfl) (by kernel_rfl) (fun _ _ _ h => h) (Or.inl ⟨by rfl, ?hyu5x11⟩) hHeld1 ?restu5x11
            case hyu5x11 => first | (intro w hSw; (try dsimp only at hSw); go_simp; done) | (intro w hSw; (try dsimp only at hSw); go_simp; with_reducible rfl)
            (try simp only [Act.put, List.setIfInBounds_toArray, List.set_cons_zero, List.set_cons_succ])
            refine wpAnyH_take (i := 12) (oi := { dst := some 51, op := .load 46 (.tmp 50), type := 46, pos := "l6_jobs.go:24", after := #[⟨11, .data⟩, ⟨7, .guard⟩], guard := some (7, true) }) (v := ?vu5x12) rfl (by kernel_rfl) (by kernel_rfl) (by kernel_rfl) (fun _ _ _ h => h) (Or.inl ⟨by rfl, ?hyu5x12⟩) hHeld1 ?restu5x12
            case hyu5x12 => first | (intro w hSw; (try dsimp only at hSw); go_simp; done) | (intro w hSw; (try dsimp only at hSw); go_simp; with_reducible rfl)
            (try simp only [Act.put, List.setIfInBounds_toArray, List.set_cons_zero, List.set_cons_succ])
            refine wpAnyH_take (i := 13) (oi := { dst := some 52, op := .load 46 (.tmp 8), type := 46, pos := "l6_jobs.go:24", after := #[⟨7, .guard⟩], guard := some (7, true) }) (v := ?vu5x13) rfl (by kernel_rfl) (by kernel_rfl) (by kernel_rfl) (fun _ _ _ h => h) (Or.inl ⟨by rfl, ?hyu5x13⟩) hHeld1 ?restu5x13
            case hyu5x13 => first | (intro w hSw; (try dsimp only at hSw); go_simp; done) | (intro w hSw; (try dsimp only at hSw); go_simp; with_reducible rfl)
            (try simp only [Act.put, List.setIfInBounds_toArray, List.set_cons_zero, List.set_cons_succ])
            refine wpAnyH_ready (rs := [14]) (by kernel_rfl) (by simp) ?_
            refine AllReadyH.cons (o := { dst := some 53, op := .call { callee := .value (.func 101), args := #[.tmp 51, .tmp 52], argTypes := #[46, 46] }, type := 4, pos := "l6_jobs.go:24", after := #[⟨12, .data⟩, ⟨13, .data⟩, ⟨7, .chain⟩, ⟨7, .guard⟩], guard := some (7, true) }) rfl (fun K hK => ?_) AllReadyH.nil
            go_simp
            (have uu := HB6; clear uu; go_at_call 101; refine (sBef_is _ ⟨pa, pm, pe⟩ ⟨(x : Int), tm, ne⟩ true HBF.out).mono ?_; rintro e w7 ⟨rfl, hb⟩; have HB7 := Lib.hid (show Below w5.heap.size w5 w7 from bl_trans (by repeat (first | with_reducible exact HB6.out | with_reducible refine bl_drewN ?_ _ | with_reducible refine Below.drew ?_)) hb); clear hb)
            (try go_wp2_with fail)
            refine hK.out _ _ (by exact And.intro ((HB7.out.cell (p := ⟨w4.heap.size, 0, none⟩) hz5).trans (HC.out.1)) (And.intro ((HB7.out.cell (p := ⟨w4.heap.size, 1, none⟩) hz5).trans (HC.out.2.1)) (And.intro ((HB7.out.cell (p := ⟨w4.heap.size, 2, none⟩) hz5).trans (HC.out.2.2.1)) (And.intro ((HB7.out.cell (p := ⟨bj, oj + r * 3, none⟩) (Nat.lt_trans hbj4' hz5)).trans (HC.out.2.2.2.1)) (And.intro ((HB7.out.cell (p := ⟨bj, oj + r * 3 + 1, none⟩) (Nat.lt_trans hbj4' hz5)).trans (HC.out.2.2.2.2.1)) (And.intro ((HB7.out.cell (p := ⟨bj, oj + r * 3 + 2, none⟩) (Nat.lt_trans hbj4' hz5)).trans (HC.out.2.2.2.2.2.1)) (And.intro ((HB7.out.cell (p := ⟨w1.heap.size, x, none⟩) (Nat.lt_trans hgl hz5)).trans (HC.out.2.2.2.2.2.2.1)) (((HB7.out.cell (p := ⟨bt, ot + x * 5 + 3, none⟩) (Nat.lt_trans hbt4' hz5)).trans (HC.out.2.2.2.2.2.2.2)))))))))) (fun hHeld2 => ?_)
            clear hK K
            (try simp only [Act.put, List.setIfInBounds_toArray, List.set_cons_zero, List.set_cons_succ])
            refine wpAnyH_take (i := 15) (oi := { dst := some 54, op := .unOp .not 4 (.tmp 53), type := 4, pos := "l6_jobs.go:24", after := #[⟨14, .data⟩, ⟨7, .guard⟩], guard := some (7, true) }) (v := ?vu5x15) rfl (by kernel_rfl) (by kernel_rfl) (by kernel_rfl) (fun _ _ _ h => h) (Or.inl ⟨by rfl, ?hyu5x15⟩) hHeld2 ?restu5x15
            case hyu5x15 => first | (intro w hSw; (try dsimp only at hSw); go_simp; done) | (intro w hSw; (try dsimp only at hSw); go_simp; with_reducible rfl)
            (try simp only [Act.put, List.setIfInBounds_toArray, List.set_cons_zero, List.set_cons_succ])
            refine wpAnyH_take (i := 16) (oi := { dst := some 55, op := .pick (.tmp 46) (.tmp 54) (.const (.bool false)), type := 4, pos := "l6_jobs.go:24", after := #[⟨7, .data⟩, ⟨15, .data⟩, ⟨4, .guard⟩], guard := some (4, false) }) (v := ?vu5x16) rfl (by kernel_rfl) (by kernel_rfl) (by kernel_rfl) (fun _ _ _ h => h) (Or.inl ⟨by rfl, ?hyu5x16⟩) hHeld2 ?restu5x16
            case hyu5x16 => first | (intro w hSw; (try dsimp only at hSw); go_simp; done) | (intro w hSw; (try dsimp only at hSw); go_simp; with_reducible rfl)
            (try simp only [Act.put, List.setIfInBounds_toArray, List.set_cons_zero, List.set_cons_succ])
            refine wpAnyH_take (i := 17) (oi := { dst := some 56, op := .pick (.tmp 43) (.const (.bool true)) (.tmp 55), type := 4, pos := "l6_jobs.go:24", after := #[⟨4, .data⟩, ⟨16, .data⟩], guard := none }) (v := ?vu5x17) rfl (by kernel_rfl) (by kernel_rfl) (by kernel_rfl) (fun _ _ _ h => h) (Or.inl ⟨by rfl, ?hyu5x17⟩) hHeld2 ?restu5x17
            case hyu5x17 => first | (intro w hSw; (try dsimp only at hSw); go_simp; done) | (intro w hSw; (try dsimp only at hSw); go_simp; with_reducible rfl)
            (try simp only [Act.put, List.setIfInBounds_toArray, List.set_cons_zero, List.set_cons_succ])
            refine wpAnyH_take (i := 18) (oi := { dst := some 57, op := .move (.tmp 56), type := 4, pos := "l6_jobs.go:24", after := #[⟨17, .data⟩, ⟨14, .chain⟩], guard := none }) (v := ?vu5x18) rfl (by kernel_rfl) (by kernel_rfl) (by kernel_rfl) (fun _ _ _ h => h) (Or.inl ⟨by rfl, ?hyu5x18⟩) hHeld2 ?restu5x18
            case hyu5x18 => first | (intro w hSw; (try dsimp only at hSw); go_simp; done) | (intro w hSw; (try dsimp only at hSw); go_simp; with_reducible rfl)
            (try simp only [Act.put, List.setIfInBounds_toArray, List.set_cons_zero, List.set_cons_succ])
            refine wpAnyH_take (i := 19) (oi := { dst := some 58, op := .fieldAddr 46 (.tmp 8) 1, type := 0, pos := "l6_jobs.go:24", after := #[⟨18, .guard⟩], guard := some (18, false) }) (v := ?vu5x19) rfl (by kernel_rfl) (by kernel_rfl) (by kernel_rfl) (fun _ _ _ h => h) (Or.inl ⟨by rfl, ?hyu5x19⟩) hHeld2 ?restu5x19
            case hyu5x19 => first | (intro w hSw; (try dsimp only at hSw); go_simp; done) | (intro w hSw; (try dsimp only at hSw); go_simp; with_reducible rfl)
            (try simp only [Act.put, List.setIfInBounds_toArray, List.set_cons_zero, List.set_cons_succ])
            refine wpAnyH_take (i := 20) (oi := { dst := some 59, op := .load 3 (.tmp 58), type := 3, pos := "l6_jobs.go:24", after := #[⟨19, .data⟩, ⟨18, .guard⟩], guard := some (18, false) }) (v := ?vu5x20) rfl (by kernel_rfl) (by kernel_rfl) (by kernel_rfl) (fun _ _ _ h => h) (Or.inl ⟨by rfl, ?hyu5x20⟩) hHeld2 ?restu5x20
            case hyu5x20 => first | (intro w hSw; (try dsimp only at hSw); go_simp; done) | (intro w hSw; (try dsimp only at hSw); go_simp; with_reducible rfl)
            (try simp only [Act.put, List.setIfInBounds_toArray, List.set_cons_zero, List.set_cons_succ])
            refine wpAnyH_take (i := 21) (oi := { dst := some 60, op := .move (.tmp 5), type := 27, pos := "l6_jobs.go:24", after := #[⟨18, .guard⟩], guard := some (18, false) }) (v := ?vu5x21) rfl (by kernel_rfl) (by kernel_rfl) (by kernel_rfl) (fun _ _ _ h => h) (Or.inl ⟨by rfl, ?hyu5x21⟩) hHeld2 ?restu5x21
            case hyu5x21 => first | (intro w hSw; (try dsimp only at hSw); go_simp; done) | (intro w hSw; (try dsimp only at hSw); go_simp; with_reducible rfl)
            (try simp only [Act.put, List.setIfInBounds_toArray, List.set_cons_zero, List.set_cons_succ])
            refine wpAnyH_take (i := 22) (oi := { dst := some 61, op := .fieldAddr 46 (.tmp 8) 0, type := 0, pos := "l6_jobs.go:24", after := #[⟨18, .guard⟩], guard := some (18, false) }) (v := ?vu5x22) rfl (by kernel_rfl) (by kernel_rfl) (by kernel_rfl) (fun _ _ _ h => h) (Or.inl ⟨by rfl, ?hyu5x22⟩) hHeld2 ?restu5x22
            case hyu5x22 => first | (intro w hSw; (try dsimp only at hSw); go_simp; done) | (intro w hSw; (try dsimp only at hSw); go_simp; with_reducible rfl)
            (try simp only [Act.put, List.setIfInBounds_toArray, List.set_cons_zero, List.set_cons_succ])
            refine wpAnyH_take (i := 23) (oi := { dst := some 62, op := .load 3 (.tmp 61), type := 3, pos := "l6_jobs.go:24", after := #[⟨22, .data⟩, ⟨18, .guard⟩], guard := some (18, false) }) (v := ?vu5x23) rfl (by kernel_rfl) (by kernel_rfl) (by kernel_rfl) (fun _ _ _ h => h) (Or.inl ⟨by rfl, ?hyu5x23⟩) hHeld2 ?restu5x23
            case hyu5x23 => first | (intro w hSw; (try dsimp only at hSw); go_simp; done) | (intro w hSw; (try dsimp only at hSw); go_simp; with_reducible rfl)
            (try simp only [Act.put, List.setIfInBounds_toArray, List.set_cons_zero, List.set_cons_succ])
            refine wpAnyH_take (i := 24) (oi := { dst := some 63, op := .indexAddr 27 (.tmp 60) (.tmp 62), type := 0, pos := "l6_jobs.go:24", after := #[⟨21, .data⟩, ⟨23, .data⟩, ⟨18, .guard⟩], guard := some (18, false) }) (v := ?vu5x24) rfl (by kernel_rfl) (by kernel_rfl) (by kernel_rfl) (fun _ _ _ h => h) (Or.inl ⟨by rfl, ?hyu5x24⟩) hHeld2 ?restu5x24
            case hyu5x24 => first | (intro w hSw; (try dsimp only at hSw); go_simp; done) | (intro w hSw; (try dsimp only at hSw); go_simp; with_reducible rfl)
            (try simp only [Act.put, List.setIfInBounds_toArray, List.set_cons_zero, List.set_cons_succ])
            refine wpAnyH_take (i := 25) (oi := { dst := some 64, op := .load 3 (.tmp 63), type := 3, pos := "l6_jobs.go:24", after := #[⟨24, .data⟩, ⟨18, .guard⟩], guard := some (18, false) }) (v := ?vu5x25) rfl (by kernel_rfl) (by kernel_rfl) (by kernel_rfl) (fun _ _ _ h => h) (Or.inl ⟨by rfl, ?hyu5x25⟩) hHeld2 ?restu5x25
            case hyu5x25 => first | (intro w hSw; (try dsimp only at hSw); go_simp; done) | (intro w hSw; (try dsimp only at hSw); go_simp; with_reducible rfl)
            (try simp only [Act.put, List.setIfInBounds_toArray, List.set_cons_zero, List.set_cons_succ])
            refine wpAnyH_take (i := 26) (oi := { dst := some 65, op := .binOp .sub 3 (.tmp 59) (.tmp 64) 3, type := 3, pos := "l6_jobs.go:24", after := #[⟨20, .data⟩, ⟨25, .data⟩, ⟨18, .guard⟩], guard := some (18, false) }) (v := ?vu5x26) rfl (by kernel_rfl) (by kernel_rfl) (by kernel_rfl) (fun _ _ _ h => h) (Or.inl ⟨by rfl, ?hyu5x26⟩) hHeld2 ?restu5x26
            case hyu5x26 => first | (intro w hSw; (try dsimp only at hSw); go_simp; done) | (intro w hSw; (try dsimp only at hSw); go_simp; with_reducible rfl)
            (try simp only [Act.put, List.setIfInBounds_toArray, List.set_cons_zero, List.set_cons_succ])
            refine wpAnyH_take (i := 27) (oi := { dst := some 66, op := .move (.tmp 0), type := 23, pos := "l6_jobs.go:24", after := #[⟨18, .guard⟩], guard := some (18, false) }) (v := ?vu5x27) rfl (by kernel_rfl) (by kernel_rfl) (by kernel_rfl) (fun _ _ _ h => h) (Or.inl ⟨by rfl, ?hyu5x27⟩) hHeld2 ?restu5x27
            case hyu5x27 => first | (intro w hSw; (try dsimp only at hSw); go_simp; done) | (intro w hSw; (try dsimp only at hSw); go_simp; with_reducible rfl)
            (try simp only [Act.put, List.setIfInBounds_toArray, List.set_cons_zero, List.set_cons_succ])
            refine wpAnyH_take (i := 28) (oi := { dst := some 67, op := .fieldAddr 46 (.tmp 8) 0, type := 0, pos := "l6_jobs.go:24", after := #[⟨18, .guard⟩], guard := some (18, false) }) (v := ?vu5x28) rfl (by kernel_rfl) (by kernel_rfl) (by kernel_rfl) (fun _ _ _ h => h) (Or.inl ⟨by rfl, ?hyu5x28⟩) hHeld2 ?restu5x28
            case hyu5x28 => first | (intro w hSw; (try dsimp only at hSw); go_simp; done) | (intro w hSw; (try dsimp only at hSw); go_simp; with_reducible rfl)
            (try simp only [Act.put, List.setIfInBounds_toArray, List.set_cons_zero, List.set_cons_succ])
            refine wpAnyH_take (i := 29) (oi := { dst := some 68, op := .load 3 (.tmp 67), type := 3, pos := "l6_jobs.go:24", after := #[⟨28, .data⟩, ⟨18, .guard⟩], guard := some (18, false) }) (v := ?vu5x29) rfl (by kernel_rfl) (by kernel_rfl) (by kernel_rfl) (fun _ _ _ h => h) (Or.inl ⟨by rfl, ?hyu5x29⟩) hHeld2 ?restu5x29
            case hyu5x29 => first | (intro w hSw; (try dsimp only at hSw); go_simp; done) | (intro w hSw; (try dsimp only at hSw); go_simp; with_reducible rfl)
            (try simp only [Act.put, List.setIfInBounds_toArray, List.set_cons_zero, List.set_cons_succ])
            refine wpAnyH_take (i := 30) (oi := { dst := some 69, op := .indexAddr 23 (.tmp 66) (.tmp 68), type := 0, pos := "l6_jobs.go:24", after := #[⟨27, .data⟩, ⟨29, .data⟩, ⟨18, .guard⟩], guard := some (18, false) }) (v := ?vu5x30) rfl (by kernel_rfl) (by kernel_rfl) (by kernel_rfl) (fun _ _ _ h => h) (Or.inl ⟨by rfl, ?hyu5x30⟩) hHeld2 ?restu5x30
            case hyu5x30 => first | (intro w hSw; (try dsimp only at hSw); go_simp; done) | (intro w hSw; (try dsimp only at hSw); go_simp; with_reducible rfl)
            (try simp only [Act.put, List.setIfInBounds_toArray, List.set_cons_zero, List.set_cons_succ])
            refine wpAnyH_take (i := 31) (oi := { dst := some 70, op := .fieldAddr 43 (.tmp 69) 3, type := 0, pos := "l6_jobs.go:24", after := #[⟨30, .data⟩, ⟨18, .guard⟩], guard := some (18, false) }) (v := ?vu5x31) rfl (by kernel_rfl) (by kernel_rfl) (by kernel_rfl) (fun _ _ _ h => h) (Or.inl ⟨by rfl, ?hyu5x31⟩) hHeld2 ?restu5x31
            case hyu5x31 => first | (intro w hSw; (try dsimp only at hSw); go_simp; done) | (intro w hSw; (try dsimp only at hSw); go_simp; with_reducible rfl)
            (try simp only [Act.put, List.setIfInBounds_toArray, List.set_cons_zero, List.set_cons_succ])
            refine wpAnyH_take (i := 32) (oi := { dst := some 71, op := .load 3 (.tmp 70), type := 3, pos := "l6_jobs.go:24", after := #[⟨31, .data⟩, ⟨18, .guard⟩], guard := some (18, false) }) (v := ?vu5x32) rfl (by kernel_rfl) (by kernel_rfl) (by kernel_rfl) (fun _ _ _ h => h) (Or.inl ⟨by rfl, ?hyu5x32⟩) hHeld2 ?restu5x32
            case hyu5x32 => first | (intro w hSw; (try dsimp only at hSw); go_simp; done) | (intro w hSw; (try dsimp only at hSw); go_simp; with_reducible rfl)
            (try simp only [Act.put, List.setIfInBounds_toArray, List.set_cons_zero, List.set_cons_succ])
            refine wpAnyH_take (i := 33) (oi := { dst := some 72, op := .binOp .lss 3 (.tmp 65) (.tmp 71) 3, type := 4, pos := "l6_jobs.go:24", after := #[⟨26, .data⟩, ⟨32, .data⟩, ⟨18, .guard⟩], guard := some (18, false) }) (v := ?vu5x33) rfl (by kernel_rfl) (by kernel_rfl) (by kernel_rfl) (fun _ _ _ h => h) (Or.inl ⟨by rfl, ?hyu5x33⟩) hHeld2 ?restu5x33
            case hyu5x33 => first | (intro w hSw; (try dsimp only at hSw); go_simp; done) | (intro w hSw; (try dsimp only at hSw); go_simp; with_reducible rfl)
            (try simp only [Act.put, List.setIfInBounds_toArray, List.set_cons_zero, List.set_cons_succ])
            refine wpAnyH_take (i := 34) (oi := { dst := some 73, op := .pick (.tmp 57) (.const (.bool true)) (.tmp 72), type := 4, pos := "l6_jobs.go:24", after := #[⟨18, .data⟩, ⟨33, .data⟩], guard := none }) (v := ?vu5x34) rfl (by kernel_rfl) (by kernel_rfl) (by kernel_rfl) (fun _ _ _ h => h) (Or.inl ⟨by rfl, ?hyu5x34⟩) hHeld2 ?restu5x34
            case hyu5x34 => first | (intro w hSw; (try dsimp only at hSw); go_simp; done) | (intro w hSw; (try dsimp only at hSw); go_simp; with_reducible rfl)
            (try simp only [Act.put, List.setIfInBounds_toArray, List.set_cons_zero, List.set_cons_succ])
            refine wpAnyH_done (by kernel_rfl) ?_ _
            have BW := Lib.hid (show Blk w5 w1.heap.size 3 (lastV k (js.take q)).toArray from HBQ5.out)
            have B7 := Lib.hid (BW.out.below HB7.out BW.out.lt)
            have hs7 := HB7.out.size
            have f7 := B7.out.frozen x
            have l7 := (B7.out.cell x).trans (last_get hxk)
            have cj7 := fun i (hi : i < 3) => (HB7.out.cell (p := ⟨w4.heap.size, i, none⟩) hz5)
            have y0 := (HB7.out.cell (p := ⟨w4.heap.size, 0, none⟩) hz5).trans (HC.out.1)
            have y1 := (HB7.out.cell (p := ⟨w4.heap.size, 1, none⟩) hz5).trans (HC.out.2.1)
            have BN := Lib.hid (show ∀ W, Blk W w1.heap.size 3 (lastV k (js.take q)).toArray → Blk (W.setCell ⟨w1.heap.size, x, none⟩ (.int .i64 tm)) w1.heap.size 3 (lastV k (js.take (q + 1))).toArray from fun W hW => by rw [HTAKE.out, ← last_set (j := ⟨(x : Int), tm, ne⟩) hxk rfl]; exact hW.set_ x (.int .i64 tm))
            have HPN := Lib.hid (show (js.take (q + 1)).all (jobB ts) = true ∧ pairB ts (js.take (q + 1)) = true by rw [HTAKE.out]; exact (jobs_step HS.out HP.out).2 HNT.out)
            clear cj7
            go_wp2
            go_roundw
            case rel => exact ⟨q + 1, by omega, by go_num, HPN, Lib.hid (BN.out _ (by repeat (first | exact B7.out | refine Blk.drewN ?_ _ | refine Blk.drew ?_))), Lib.hid (bl_set (by repeat (first | with_reducible exact bl_trans HW5.out HB7.out | refine bl_drewN ?_ _ | refine Below.drew ?_)) (by dsimp only; omega) _)⟩
            case measure => simp [intOf]; omega
          · skip
            obtain rfl : b = false := by
              rw [← HR.out]
              exact jobs_bad HS.out HJ.out HP.out (by rw [HNX.out, show ((js.take q).getLast?.map fun a => befB a ⟨(x : Int), tm, ne⟩).getD true = true by rw [HLQ.out]; exact HBF.out, Bool.true_and, HLA.out]; exact decide_eq_false hd)
            have dd : decide (tm - la < ev) = true := by simp; omega
            clear hd
            go_wp2_with fail
            have HBQ5 := Lib.hid (show Blk (w4.alloc (.cells #[.int .i64 (x : Int), .int .i64 tm, .int .i64 ne] 46)) w1.heap.size 3 (lastV k (js.take q)).toArray from BQ.out.alloc _)
            have s0 : (w4.alloc (.cells #[.int .i64 (x : Int), .int .i64 tm, .int .i64 ne] 46)).cell? ⟨w4.heap.size, 0, none⟩ = some (.int .i64 (x : Int)) := (Blk.new w4 46 #[.int .i64 (x : Int), .int .i64 tm, .int .i64 ne]).cell 0
            have s1 : (w4.alloc (.cells #[.int .i64 (x : Int), .int .i64 tm, .int .i64 ne] 46)).cell? ⟨w4.heap.size, 1, none⟩ = some (.int .i64 tm) := (Blk.new w4 46 #[.int .i64 (x : Int), .int .i64 tm, .int .i64 ne]).cell 1
            have s2 : (w4.alloc (.cells #[.int .i64 (x : Int), .int .i64 tm, .int .i64 ne] 46)).cell? ⟨w4.heap.size, 2, none⟩ = some (.int .i64 ne) := (Blk.new w4 46 #[.int .i64 (x : Int), .int .i64 tm, .int .i64 ne]).cell 2
            have s3 : (w4.alloc (.cells #[.int .i64 (x : Int), .int .i64 tm, .int .i64 ne] 46)).cell? ⟨bj, oj + r * 3, none⟩ = some (.int .i64 pa) := (World.cell?_alloc_lt w4 _ ⟨bj, oj + r * 3, none⟩ hbj4).trans p0
            have s4 : (w4.alloc (.cells #[.int .i64 (x : Int), .int .i64 tm, .int .i64 ne] 46)).cell? ⟨bj, oj + r * 3 + 1, none⟩ = some (.int .i64 pm) := (World.cell?_alloc_lt w4 _ ⟨bj, oj + r * 3 + 1, none⟩ hbj4).trans p1
            have s5 : (w4.alloc (.cells #[.int .i64 (x : Int), .int .i64 tm, .int .i64 ne] 46)).cell? ⟨bj, oj + r * 3 + 2, none⟩ = some (.int .i64 pe) := (World.cell?_alloc_lt w4 _ ⟨bj, oj + r * 3 + 2, none⟩ hbj4).trans p2
            have s6 : (w4.alloc (.cells #[.int .i64 (x : Int), .int .i64 tm, .int .i64 ne] 46)).cell? ⟨w1.heap.size, x, none⟩ = some (.int .i64 la) := (World.cell?_alloc_lt w4 _ ⟨w1.heap.size, x, none⟩ hgl).trans lx
            have s7 : (w4.alloc (.cells #[.int .i64 (x : Int), .int .i64 tm, .int .i64 ne] 46)).cell? ⟨bt, ot + x * 5 + 3, none⟩ = some (.int .i64 ev) := (World.cell?_alloc_lt w4 _ ⟨bt, ot + x * 5 + 3, none⟩ hbt4).trans t3
            have HW5 := Lib.hid (show Below w.heap.size w (w4.alloc (.cells #[.int .i64 (x : Int), .int .i64 tm, .int .i64 ne] 46)) from bl_alloc HB.out _)
            have hz5 : w4.heap.size < (w4.alloc (.cells #[.int .i64 (x : Int), .int .i64 tm, .int .i64 ne] 46)).heap.size := by simp
            generalize (w4.alloc (.cells #[.int .i64 (x : Int), .int .i64 tm, .int .i64 ne] 46)) = w5 at *
            have HC := Lib.hid (And.intro s0 (And.intro s1 (And.intro s2 (And.intro s3 (And.intro s4 (And.intro s5 (And.intro s6 (s7))))))))
            clear s0 s1 s2 s3 s4 s5 s6 s7
            refine wp_region_held_drew (S := (fun W => W.cell? ⟨w4.heap.size, 0, none⟩ = some (.int .i64 (x : Int)) ∧ W.cell? ⟨w4.heap.size, 1, none⟩ = some (.int .i64 tm) ∧ W.cell? ⟨w4.heap.size, 2, none⟩ = some (.int .i64 ne) ∧ W.cell? ⟨bj, oj + r * 3, none⟩ = some (.int .i64 pa) ∧ W.cell? ⟨bj, oj + r * 3 + 1, none⟩ = some (.int .i64 pm) ∧ W.cell? ⟨bj, oj + r * 3 + 2, none⟩ = some (.int .i64 pe) ∧ W.cell? ⟨w1.heap.size, x, none⟩ = some (.int .i64 la) ∧ W.cell? ⟨bt, ot + x * 5 + 3, none⟩ = some (.int .i64 ev))) (by kernel_rfl) (by exact HC.out) (fun hHeld0 => ?_)
            refine wpAnyH_take (i := 0) (oi := { dst := some 39, op := .move (.tmp 0), type := 23, pos := "l6_jobs.go:24", after := #[], guard := none }) (v := ?vu6x0) rfl (by kernel_rfl) (by kernel_rfl) (by kernel_rfl) (fun _ _ _ h => h) (Or.inl ⟨by rfl, ?hyu6x0⟩) hHeld0 ?restu6x0
            case hyu6x0 => first | (intro w hSw; (try dsimp only at hSw); go_simp; done) | (intro w hSw; (try dsimp only at hSw); go_simp; with_reducible rfl)
            (try simp only [Act.put, List.setIfInBounds_toArray, List.set_cons_zero, List.set_cons_succ])
            refine wpAnyH_take (i := 1) (oi := { dst := some 40, op := .load 46 (.tmp 8), type := 46, pos := "l6_jobs.go:24", after := #[], guard := none }) (v := ?vu6x1) rfl (by kernel_rfl) (by kernel_rfl) (by kernel_rfl) (fun _ _ _ h => h) (Or.inl ⟨by rfl, ?hyu6x1⟩) hHeld0 ?restu6x1
            case hyu6x1 => first | (intro w hSw; (try dsimp only at hSw); go_simp; done) | (intro w hSw; (try dsimp only at hSw); go_simp; with_reducible rfl)
            (try simp only [Act.put, List.setIfInBounds_toArray, List.set_cons_zero, List.set_cons_succ])
            refine wpAnyH_ready (rs := [2]) (by kernel_rfl) (by simp) ?_
            refine AllReadyH.cons (o := { dst := some 41, op := .call { callee := .value (.func 100), args := #[.tmp 39, .tmp 40], argTypes := #[23, 46] }, type := 4, pos := "l6_jobs.go:24", after := #[⟨0, .data⟩, ⟨1, .data⟩], guard := none }) rfl (fun K hK => ?_) AllReadyH.nil
            go_simp
            (have uu := HW5; clear uu; go_at_call 100; refine (sJob_is _ (some ⟨bt, ot, none⟩) k c ts ((H.out.below (by repeat (first | with_reducible exact HW5.out | with_reducible refine bl_drewN ?_ _ | with_reducible refine Below.drew ?_) : Below w.heap.size w _)).more (Below.size (by repeat (first | with_reducible exact HW5.out | with_reducible refine bl_drewN ?_ _ | with_reducible refine Below.drew ?_) : Below w.heap.size w _))) ⟨(x : Int), tm, ne⟩ true HJB.out).mono ?_; rintro e w6 ⟨rfl, hb⟩; have HB6 := Lib.hid (show Below w5.heap.size w5 w6 from bl_trans (by repeat (first | with_reducible exact Below.refl _ _ | with_reducible refine bl_drewN ?_ _ | with_reducible refine Below.drew ?_)) hb); clear hb)
            (try go_wp2_with fail)
            refine hK.out _ _ (by exact And.intro ((HB6.out.cell (p := ⟨w4.heap.size, 0, none⟩) hz5).trans (HC.out.1)) (And.intro ((HB6.out.cell (p := ⟨w4.heap.size, 1, none⟩) hz5).trans (HC.out.2.1)) (And.intro ((HB6.out.cell (p := ⟨w4.heap.size, 2, none⟩) hz5).trans (HC.out.2.2.1)) (And.intro ((HB6.out.cell (p := ⟨bj, oj + r * 3, none⟩) (Nat.lt_trans hbj4' hz5)).trans (HC.out.2.2.2.1)) (And.intro ((HB6.out.cell (p := ⟨bj, oj + r * 3 + 1, none⟩) (Nat.lt_trans hbj4' hz5)).trans (HC.out.2.2.2.2.1)) (And.intro ((HB6.out.cell (p := ⟨bj, oj + r * 3 + 2, none⟩) (Nat.lt_trans hbj4' hz5)).trans (HC.out.2.2.2.2.2.1)) (And.intro ((HB6.out.cell (p := ⟨w1.heap.size, x, none⟩) (Nat.lt_trans hgl hz5)).trans (HC.out.2.2.2.2.2.2.1)) (((HB6.out.cell (p := ⟨bt, ot + x * 5 + 3, none⟩) (Nat.lt_trans hbt4' hz5)).trans (HC.out.2.2.2.2.2.2.2)))))))))) (fun hHeld1 => ?_)
            clear hK K
            (try simp only [Act.put, List.setIfInBounds_toArray, List.set_cons_zero, List.set_cons_succ])
            refine wpAnyH_take (i := 3) (oi := { dst := some 42, op := .unOp .not 4 (.tmp 41), type := 4, pos := "l6_jobs.go:24", after := #[⟨2, .data⟩], guard := none }) (v := ?vu6x3) rfl (by kernel_rfl) (by kernel_rfl) (by kernel_rfl) (fun _ _ _ h => h) (Or.inl ⟨by rfl, ?hyu6x3⟩) hHeld1 ?restu6x3
            case hyu6x3 => first | (intro w hSw; (try dsimp only at hSw); go_simp; done) | (intro w hSw; (try dsimp only at hSw); go_simp; with_reducible rfl)
            (try simp only [Act.put, List.setIfInBounds_toArray, List.set_cons_zero, List.set_cons_succ])
            refine wpAnyH_take (i := 4) (oi := { dst := some 43, op := .move (.tmp 42), type := 4, pos := "l6_jobs.go:24", after := #[⟨3, .data⟩, ⟨2, .chain⟩], guard := none }) (v := ?vu6x4) rfl (by kernel_rfl) (by kernel_rfl) (by kernel_rfl) (fun _ _ _ h => h) (Or.inl ⟨by rfl, ?hyu6x4⟩) hHeld1 ?restu6x4
            case hyu6x4 => first | (intro w hSw; (try dsimp only at hSw); go_simp; done) | (intro w hSw; (try dsimp only at hSw); go_simp; with_reducible rfl)
            (try simp only [Act.put, List.setIfInBounds_toArray, List.set_cons_zero, List.set_cons_succ])
            refine wpAnyH_take (i := 5) (oi := { dst := some 44, op := .move (.tmp 7), type := 3, pos := "l6_jobs.go:24", after := #[⟨4, .guard⟩], guard := some (4, false) }) (v := ?vu6x5) rfl (by kernel_rfl) (by kernel_rfl) (by kernel_rfl) (fun _ _ _ h => h) (Or.inl ⟨by rfl, ?hyu6x5⟩) hHeld1 ?restu6x5
            case hyu6x5 => first | (intro w hSw; (try dsimp only at hSw); go_simp; done) | (intro w hSw; (try dsimp only at hSw); go_simp; with_reducible rfl)
            (try simp only [Act.put, List.setIfInBounds_toArray, List.set_cons_zero, List.set_cons_succ])
            refine wpAnyH_take (i := 6) (oi := { dst := some 45, op := .binOp .gtr 3 (.tmp 44) (.const (.int .i64 0)) 3, type := 4, pos := "l6_jobs.go:24", after := #[⟨5, .data⟩, ⟨4, .guard⟩], guard := some (4, false) }) (v := ?vu6x6) rfl (by kernel_rfl) (by kernel_rfl) (by kernel_rfl) (fun _ _ _ h => h) (Or.inl ⟨by rfl, ?hyu6x6⟩) hHeld1 ?restu6x6
            case hyu6x6 => first | (intro w hSw; (try dsimp only at hSw); go_simp; done) | (intro w hSw; (try dsimp only at hSw); go_simp; with_reducible rfl)
            (try simp only [Act.put, List.setIfInBounds_toArray, List.set_cons_zero, List.set_cons_succ])
            refine wpAnyH_take (i := 7) (oi := { dst := some 46, op := .move (.tmp 45), type := 4, pos := "l6_jobs.go:24", after := #[⟨6, .data⟩, ⟨4, .chain⟩, ⟨4, .guard⟩], guard := some (4, false) }) (v := ?vu6x7) rfl (by kernel_rfl) (by kernel_rfl) (by kernel_rfl) (fun _ _ _ h => h) (Or.inl ⟨by rfl, ?hyu6x7⟩) hHeld1 ?restu6x7
            case hyu6x7 => first | (intro w hSw; (try dsimp only at hSw); go_simp; done) | (intro w hSw; (try dsimp only at hSw); go_simp; with_reducible rfl)
            (try simp only [Act.put, List.setIfInBounds_toArray, List.set_cons_zero, List.set_cons_succ])
            refine wpAnyH_take (i := 8) (oi := { dst := some 47, op := .move (.tmp 1), type := 24, pos := "l6_jobs.go:24", after := #[⟨7, .guard⟩], guard := some (7, true) }) (v := ?vu6x8) rfl (by kernel_rfl) (by kernel_rfl) (by kernel_rfl) (fun _ _ _ h => h) (Or.inl ⟨by rfl, ?hyu6x8⟩) hHeld1 ?restu6x8
            case hyu6x8 => first | (intro w hSw; (try dsimp only at hSw); go_simp; done) | (intro w hSw; (try dsimp only at hSw); go_simp; with_reducible rfl)
            (try simp only [Act.put, List.setIfInBounds_toArray, List.set_cons_zero, List.set_cons_succ])
            refine wpAnyH_take (i := 9) (oi := { dst := some 48, op := .move (.tmp 7), type := 3, pos := "l6_jobs.go:24", after := #[⟨7, .guard⟩], guard := some (7, true) }) (v := ?vu6x9) rfl (by kernel_rfl) (by kernel_rfl) (by kernel_rfl) (fun _ _ _ h => h) (Or.inl ⟨by rfl, ?hyu6x9⟩) hHeld1 ?restu6x9
            case hyu6x9 => first | (intro w hSw; (try dsimp only at hSw); go_simp; done) | (intro w hSw; (try dsimp only at hSw); go_simp; with_reducible rfl)
            (try simp only [Act.put, List.setIfInBounds_toArray, List.set_cons_zero, List.set_cons_succ])
            refine wpAnyH_take (i := 10) (oi := { dst := some 49, op := .binOp .sub 3 (.tmp 48) (.const (.int .i64 1)) 3, type := 3, pos := "l6_jobs.go:24", after := #[⟨9, .data⟩, ⟨7, .guard⟩], guard := some (7, true) }) (v := ?vu6x10) rfl (by kernel_rfl) (by kernel_rfl) (by kernel_rfl) (fun _ _ _ h => h) (Or.inl ⟨by rfl, ?hyu6x10⟩) hHeld1 ?restu6x10
            case hyu6x10 => first | (intro w hSw; (try dsimp only at hSw); go_simp; done) | (intro w hSw; (try dsimp only at hSw); go_simp; with_reducible rfl)
            (try simp only [Act.put, List.setIfInBounds_toArray, List.set_cons_zero, List.set_cons_succ])
            refine wpAnyH_take (i := 11) (oi := { dst := some 50, op := .indexAddr 24 (.tmp 47) (.tmp 49), type := 0, pos := "l6_jobs.go:24", after := #[⟨8, .data⟩, ⟨10, .data⟩, ⟨7, .guard⟩], guard := some (7, true) }) (v := ?vu6x11) rfl (by kernel_rfl) (by kernel_rfl) (by kernel_rfl) (fun _ _ _ h => h) (Or.inl ⟨by rfl, ?hyu6x11⟩) hHeld1 ?restu6x11
            case hyu6x11 => first | (intro w hSw; (try dsimp only at hSw); go_simp; done) | (intro w hSw; (try dsimp only at hSw); go_simp; with_reducible rfl)
            (try simp only [Act.put, List.setIfInBounds_toArray, List.set_cons_zero, List.set_cons_succ])
            refine wpAnyH_take (i := 12) (oi := { dst := some 51, op := .load 46 (.tmp 50), type := 46, pos := "l6_jobs.go:24", after := #[⟨11, .data⟩, ⟨7, .guard⟩], guard := some (7, true) }) (v := ?vu6x12) rfl (by kernel_rfl) (by kernel_rfl) (by kernel_rfl) (fun _ _ _ h => h) (Or.inl ⟨by rfl, ?hyu6x12⟩) hHeld1 ?restu6x12
            case hyu6x12 => first | (intro w hSw; (try dsimp only at hSw); go_simp; done) | (intro w hSw; (try dsimp only at hSw); go_simp; with_reducible rfl)
            (try simp only [Act.put, List.setIfInBounds_toArray, List.set_cons_zero, List.set_cons_succ])
            refine wpAnyH_take (i := 13) (oi := { dst := some 52, op := .load 46 (.tmp 8), type := 46, pos := "l6_jobs.go:24", after := #[⟨7, .guard⟩], guard := some (7, true) }) (v := ?vu6x13) rfl (by kernel_rfl) (by kernel_rfl) (by kernel_rfl) (fun _ _ _ h => h) (Or.inl ⟨by rfl, ?hyu6x13⟩) hHeld1 ?restu6x13
            case hyu6x13 => first | (intro w hSw; (try dsimp only at hSw); go_simp; done) | (intro w hSw; (try dsimp only at hSw); go_simp; with_reducible rfl)
            (try simp only [Act.put, List.setIfInBounds_toArray, List.set_cons_zero, List.set_cons_succ])
            refine wpAnyH_ready (rs := [14]) (by kernel_rfl) (by simp) ?_
            refine AllReadyH.cons (o := { dst := some 53, op := .call { callee := .value (.func 101), args := #[.tmp 51, .tmp 52], argTypes := #[46, 46] }, type := 4, pos := "l6_jobs.go:24", after := #[⟨12, .data⟩, ⟨13, .data⟩, ⟨7, .chain⟩, ⟨7, .guard⟩], guard := some (7, true) }) rfl (fun K hK => ?_) AllReadyH.nil
            go_simp
            (have uu := HB6; clear uu; go_at_call 101; refine (sBef_is _ ⟨pa, pm, pe⟩ ⟨(x : Int), tm, ne⟩ true HBF.out).mono ?_; rintro e w7 ⟨rfl, hb⟩; have HB7 := Lib.hid (show Below w5.heap.size w5 w7 from bl_trans (by repeat (first | with_reducible exact HB6.out | with_reducible refine bl_drewN ?_ _ | with_reducible refine Below.drew ?_)) hb); clear hb)
            (try go_wp2_with fail)
            refine hK.out _ _ (by exact And.intro ((HB7.out.cell (p := ⟨w4.heap.size, 0, none⟩) hz5).trans (HC.out.1)) (And.intro ((HB7.out.cell (p := ⟨w4.heap.size, 1, none⟩) hz5).trans (HC.out.2.1)) (And.intro ((HB7.out.cell (p := ⟨w4.heap.size, 2, none⟩) hz5).trans (HC.out.2.2.1)) (And.intro ((HB7.out.cell (p := ⟨bj, oj + r * 3, none⟩) (Nat.lt_trans hbj4' hz5)).trans (HC.out.2.2.2.1)) (And.intro ((HB7.out.cell (p := ⟨bj, oj + r * 3 + 1, none⟩) (Nat.lt_trans hbj4' hz5)).trans (HC.out.2.2.2.2.1)) (And.intro ((HB7.out.cell (p := ⟨bj, oj + r * 3 + 2, none⟩) (Nat.lt_trans hbj4' hz5)).trans (HC.out.2.2.2.2.2.1)) (And.intro ((HB7.out.cell (p := ⟨w1.heap.size, x, none⟩) (Nat.lt_trans hgl hz5)).trans (HC.out.2.2.2.2.2.2.1)) (((HB7.out.cell (p := ⟨bt, ot + x * 5 + 3, none⟩) (Nat.lt_trans hbt4' hz5)).trans (HC.out.2.2.2.2.2.2.2)))))))))) (fun hHeld2 => ?_)
            clear hK K
            (try simp only [Act.put, List.setIfInBounds_toArray, List.set_cons_zero, List.set_cons_succ])
            refine wpAnyH_take (i := 15) (oi := { dst := some 54, op := .unOp .not 4 (.tmp 53), type := 4, pos := "l6_jobs.go:24", after := #[⟨14, .data⟩, ⟨7, .guard⟩], guard := some (7, true) }) (v := ?vu6x15) rfl (by kernel_rfl) (by kernel_rfl) (by kernel_rfl) (fun _ _ _ h => h) (Or.inl ⟨by rfl, ?hyu6x15⟩) hHeld2 ?restu6x15
            case hyu6x15 => first | (intro w hSw; (try dsimp only at hSw); go_simp; done) | (intro w hSw; (try dsimp only at hSw); go_simp; with_reducible rfl)
            (try simp only [Act.put, List.setIfInBounds_toArray, List.set_cons_zero, List.set_cons_succ])
            refine wpAnyH_take (i := 16) (oi := { dst := some 55, op := .pick (.tmp 46) (.tmp 54) (.const (.bool false)), type := 4, pos := "l6_jobs.go:24", after := #[⟨7, .data⟩, ⟨15, .data⟩, ⟨4, .guard⟩], guard := some (4, false) }) (v := ?vu6x16) rfl (by kernel_rfl) (by kernel_rfl) (by kernel_rfl) (fun _ _ _ h => h) (Or.inl ⟨by rfl, ?hyu6x16⟩) hHeld2 ?restu6x16
            case hyu6x16 => first | (intro w hSw; (try dsimp only at hSw); go_simp; done) | (intro w hSw; (try dsimp only at hSw); go_simp; with_reducible rfl)
            (try simp only [Act.put, List.setIfInBounds_toArray, List.set_cons_zero, List.set_cons_succ])
            refine wpAnyH_take (i := 17) (oi := { dst := some 56, op := .pick (.tmp 43) (.const (.bool true)) (.tmp 55), type := 4, pos := "l6_jobs.go:24", after := #[⟨4, .data⟩, ⟨16, .data⟩], guard := none }) (v := ?vu6x17) rfl (by kernel_rfl) (by kernel_rfl) (by kernel_rfl) (fun _ _ _ h => h) (Or.inl ⟨by rfl, ?hyu6x17⟩) hHeld2 ?restu6x17
            case hyu6x17 => first | (intro w hSw; (try dsimp only at hSw); go_simp; done) | (intro w hSw; (try dsimp only at hSw); go_simp; with_reducible rfl)
            (try simp only [Act.put, List.setIfInBounds_toArray, List.set_cons_zero, List.set_cons_succ])
            refine wpAnyH_take (i := 18) (oi := { dst := some 57, op := .move (.tmp 56), type := 4, pos := "l6_jobs.go:24", after := #[⟨17, .data⟩, ⟨14, .chain⟩], guard := none }) (v := ?vu6x18) rfl (by kernel_rfl) (by kernel_rfl) (by kernel_rfl) (fun _ _ _ h => h) (Or.inl ⟨by rfl, ?hyu6x18⟩) hHeld2 ?restu6x18
            case hyu6x18 => first | (intro w hSw; (try dsimp only at hSw); go_simp; done) | (intro w hSw; (try dsimp only at hSw); go_simp; with_reducible rfl)
            (try simp only [Act.put, List.setIfInBounds_toArray, List.set_cons_zero, List.set_cons_succ])
            refine wpAnyH_take (i := 19) (oi := { dst := some 58, op := .fieldAddr 46 (.tmp 8) 1, type := 0, pos := "l6_jobs.go:24", after := #[⟨18, .guard⟩], guard := some (18, false) }) (v := ?vu6x19) rfl (by kernel_rfl) (by kernel_rfl) (by kernel_rfl) (fun _ _ _ h => h) (Or.inl ⟨by rfl, ?hyu6x19⟩) hHeld2 ?restu6x19
            case hyu6x19 => first | (intro w hSw; (try dsimp only at hSw); go_simp; done) | (intro w hSw; (try dsimp only at hSw); go_simp; with_reducible rfl)
            (try simp only [Act.put, List.setIfInBounds_toArray, List.set_cons_zero, List.set_cons_succ])
            refine wpAnyH_take (i := 20) (oi := { dst := some 59, op := .load 3 (.tmp 58), type := 3, pos := "l6_jobs.go:24", after := #[⟨19, .data⟩, ⟨18, .guard⟩], guard := some (18, false) }) (v := ?vu6x20) rfl (by kernel_rfl) (by kernel_rfl) (by kernel_rfl) (fun _ _ _ h => h) (Or.inl ⟨by rfl, ?hyu6x20⟩) hHeld2 ?restu6x20
            case hyu6x20 => first | (intro w hSw; (try dsimp only at hSw); go_simp; done) | (intro w hSw; (try dsimp only at hSw); go_simp; with_reducible rfl)
            (try simp only [Act.put, List.setIfInBounds_toArray, List.set_cons_zero, List.set_cons_succ])
            refine wpAnyH_take (i := 21) (oi := { dst := some 60, op := .move (.tmp 5), type := 27, pos := "l6_jobs.go:24", after := #[⟨18, .guard⟩], guard := some (18, false) }) (v := ?vu6x21) rfl (by kernel_rfl) (by kernel_rfl) (by kernel_rfl) (fun _ _ _ h => h) (Or.inl ⟨by rfl, ?hyu6x21⟩) hHeld2 ?restu6x21
            case hyu6x21 => first | (intro w hSw; (try dsimp only at hSw); go_simp; done) | (intro w hSw; (try dsimp only at hSw); go_simp; with_reducible rfl)
            (try simp only [Act.put, List.setIfInBounds_toArray, List.set_cons_zero, List.set_cons_succ])
            refine wpAnyH_take (i := 22) (oi := { dst := some 61, op := .fieldAddr 46 (.tmp 8) 0, type := 0, pos := "l6_jobs.go:24", after := #[⟨18, .guard⟩], guard := some (18, false) }) (v := ?vu6x22) rfl (by kernel_rfl) (by kernel_rfl) (by kernel_rfl) (fun _ _ _ h => h) (Or.inl ⟨by rfl, ?hyu6x22⟩) hHeld2 ?restu6x22
            case hyu6x22 => first | (intro w hSw; (try dsimp only at hSw); go_simp; done) | (intro w hSw; (try dsimp only at hSw); go_simp; with_reducible rfl)
            (try simp only [Act.put, List.setIfInBounds_toArray, List.set_cons_zero, List.set_cons_succ])
            refine wpAnyH_take (i := 23) (oi := { dst := some 62, op := .load 3 (.tmp 61), type := 3, pos := "l6_jobs.go:24", after := #[⟨22, .data⟩, ⟨18, .guard⟩], guard := some (18, false) }) (v := ?vu6x23) rfl (by kernel_rfl) (by kernel_rfl) (by kernel_rfl) (fun _ _ _ h => h) (Or.inl ⟨by rfl, ?hyu6x23⟩) hHeld2 ?restu6x23
            case hyu6x23 => first | (intro w hSw; (try dsimp only at hSw); go_simp; done) | (intro w hSw; (try dsimp only at hSw); go_simp; with_reducible rfl)
            (try simp only [Act.put, List.setIfInBounds_toArray, List.set_cons_zero, List.set_cons_succ])
            refine wpAnyH_take (i := 24) (oi := { dst := some 63, op := .indexAddr 27 (.tmp 60) (.tmp 62), type := 0, pos := "l6_jobs.go:24", after := #[⟨21, .data⟩, ⟨23, .data⟩, ⟨18, .guard⟩], guard := some (18, false) }) (v := ?vu6x24) rfl (by kernel_rfl) (by kernel_rfl) (by kernel_rfl) (fun _ _ _ h => h) (Or.inl ⟨by rfl, ?hyu6x24⟩) hHeld2 ?restu6x24
            case hyu6x24 => first | (intro w hSw; (try dsimp only at hSw); go_simp; done) | (intro w hSw; (try dsimp only at hSw); go_simp; with_reducible rfl)
            (try simp only [Act.put, List.setIfInBounds_toArray, List.set_cons_zero, List.set_cons_succ])
            refine wpAnyH_take (i := 25) (oi := { dst := some 64, op := .load 3 (.tmp 63), type := 3, pos := "l6_jobs.go:24", after := #[⟨24, .data⟩, ⟨18, .guard⟩], guard := some (18, false) }) (v := ?vu6x25) rfl (by kernel_rfl) (by kernel_rfl) (by kernel_rfl) (fun _ _ _ h => h) (Or.inl ⟨by rfl, ?hyu6x25⟩) hHeld2 ?restu6x25
            case hyu6x25 => first | (intro w hSw; (try dsimp only at hSw); go_simp; done) | (intro w hSw; (try dsimp only at hSw); go_simp; with_reducible rfl)
            (try simp only [Act.put, List.setIfInBounds_toArray, List.set_cons_zero, List.set_cons_succ])
            refine wpAnyH_take (i := 26) (oi := { dst := some 65, op := .binOp .sub 3 (.tmp 59) (.tmp 64) 3, type := 3, pos := "l6_jobs.go:24", after := #[⟨20, .data⟩, ⟨25, .data⟩, ⟨18, .guard⟩], guard := some (18, false) }) (v := ?vu6x26) rfl (by kernel_rfl) (by kernel_rfl) (by kernel_rfl) (fun _ _ _ h => h) (Or.inl ⟨by rfl, ?hyu6x26⟩) hHeld2 ?restu6x26
            case hyu6x26 => first | (intro w hSw; (try dsimp only at hSw); go_simp; done) | (intro w hSw; (try dsimp only at hSw); go_simp; with_reducible rfl)
            (try simp only [Act.put, List.setIfInBounds_toArray, List.set_cons_zero, List.set_cons_succ])
            refine wpAnyH_take (i := 27) (oi := { dst := some 66, op := .move (.tmp 0), type := 23, pos := "l6_jobs.go:24", after := #[⟨18, .guard⟩], guard := some (18, false) }) (v := ?vu6x27) rfl (by kernel_rfl) (by kernel_rfl) (by kernel_rfl) (fun _ _ _ h => h) (Or.inl ⟨by rfl, ?hyu6x27⟩) hHeld2 ?restu6x27
            case hyu6x27 => first | (intro w hSw; (try dsimp only at hSw); go_simp; done) | (intro w hSw; (try dsimp only at hSw); go_simp; with_reducible rfl)
            (try simp only [Act.put, List.setIfInBounds_toArray, List.set_cons_zero, List.set_cons_succ])
            refine wpAnyH_take (i := 28) (oi := { dst := some 67, op := .fieldAddr 46 (.tmp 8) 0, type := 0, pos := "l6_jobs.go:24", after := #[⟨18, .guard⟩], guard := some (18, false) }) (v := ?vu6x28) rfl (by kernel_rfl) (by kernel_rfl) (by kernel_rfl) (fun _ _ _ h => h) (Or.inl ⟨by rfl, ?hyu6x28⟩) hHeld2 ?restu6x28
            case hyu6x28 => first | (intro w hSw; (try dsimp only at hSw); go_simp; done) | (intro w hSw; (try dsimp only at hSw); go_simp; with_reducible rfl)
            (try simp only [Act.put, List.setIfInBounds_toArray, List.set_cons_zero, List.set_cons_succ])
            refine wpAnyH_take (i := 29) (oi := { dst := some 68, op := .load 3 (.tmp 67), type := 3, pos := "l6_jobs.go:24", after := #[⟨28, .data⟩, ⟨18, .guard⟩], guard := some (18, false) }) (v := ?vu6x29) rfl (by kernel_rfl) (by kernel_rfl) (by kernel_rfl) (fun _ _ _ h => h) (Or.inl ⟨by rfl, ?hyu6x29⟩) hHeld2 ?restu6x29
            case hyu6x29 => first | (intro w hSw; (try dsimp only at hSw); go_simp; done) | (intro w hSw; (try dsimp only at hSw); go_simp; with_reducible rfl)
            (try simp only [Act.put, List.setIfInBounds_toArray, List.set_cons_zero, List.set_cons_succ])
            refine wpAnyH_take (i := 30) (oi := { dst := some 69, op := .indexAddr 23 (.tmp 66) (.tmp 68), type := 0, pos := "l6_jobs.go:24", after := #[⟨27, .data⟩, ⟨29, .data⟩, ⟨18, .guard⟩], guard := some (18, false) }) (v := ?vu6x30) rfl (by kernel_rfl) (by kernel_rfl) (by kernel_rfl) (fun _ _ _ h => h) (Or.inl ⟨by rfl, ?hyu6x30⟩) hHeld2 ?restu6x30
            case hyu6x30 => first | (intro w hSw; (try dsimp only at hSw); go_simp; done) | (intro w hSw; (try dsimp only at hSw); go_simp; with_reducible rfl)
            (try simp only [Act.put, List.setIfInBounds_toArray, List.set_cons_zero, List.set_cons_succ])
            refine wpAnyH_take (i := 31) (oi := { dst := some 70, op := .fieldAddr 43 (.tmp 69) 3, type := 0, pos := "l6_jobs.go:24", after := #[⟨30, .data⟩, ⟨18, .guard⟩], guard := some (18, false) }) (v := ?vu6x31) rfl (by kernel_rfl) (by kernel_rfl) (by kernel_rfl) (fun _ _ _ h => h) (Or.inl ⟨by rfl, ?hyu6x31⟩) hHeld2 ?restu6x31
            case hyu6x31 => first | (intro w hSw; (try dsimp only at hSw); go_simp; done) | (intro w hSw; (try dsimp only at hSw); go_simp; with_reducible rfl)
            (try simp only [Act.put, List.setIfInBounds_toArray, List.set_cons_zero, List.set_cons_succ])
            refine wpAnyH_take (i := 32) (oi := { dst := some 71, op := .load 3 (.tmp 70), type := 3, pos := "l6_jobs.go:24", after := #[⟨31, .data⟩, ⟨18, .guard⟩], guard := some (18, false) }) (v := ?vu6x32) rfl (by kernel_rfl) (by kernel_rfl) (by kernel_rfl) (fun _ _ _ h => h) (Or.inl ⟨by rfl, ?hyu6x32⟩) hHeld2 ?restu6x32
            case hyu6x32 => first | (intro w hSw; (try dsimp only at hSw); go_simp; done) | (intro w hSw; (try dsimp only at hSw); go_simp; with_reducible rfl)
            (try simp only [Act.put, List.setIfInBounds_toArray, List.set_cons_zero, List.set_cons_succ])
            refine wpAnyH_take (i := 33) (oi := { dst := some 72, op := .binOp .lss 3 (.tmp 65) (.tmp 71) 3, type := 4, pos := "l6_jobs.go:24", after := #[⟨26, .data⟩, ⟨32, .data⟩, ⟨18, .guard⟩], guard := some (18, false) }) (v := ?vu6x33) rfl (by kernel_rfl) (by kernel_rfl) (by kernel_rfl) (fun _ _ _ h => h) (Or.inl ⟨by rfl, ?hyu6x33⟩) hHeld2 ?restu6x33
            case hyu6x33 => first | (intro w hSw; (try dsimp only at hSw); go_simp; done) | (intro w hSw; (try dsimp only at hSw); go_simp; with_reducible rfl)
            (try simp only [Act.put, List.setIfInBounds_toArray, List.set_cons_zero, List.set_cons_succ])
            refine wpAnyH_take (i := 34) (oi := { dst := some 73, op := .pick (.tmp 57) (.const (.bool true)) (.tmp 72), type := 4, pos := "l6_jobs.go:24", after := #[⟨18, .data⟩, ⟨33, .data⟩], guard := none }) (v := ?vu6x34) rfl (by kernel_rfl) (by kernel_rfl) (by kernel_rfl) (fun _ _ _ h => h) (Or.inl ⟨by rfl, ?hyu6x34⟩) hHeld2 ?restu6x34
            case hyu6x34 => first | (intro w hSw; (try dsimp only at hSw); go_simp; done) | (intro w hSw; (try dsimp only at hSw); go_simp; with_reducible rfl)
            (try simp only [Act.put, List.setIfInBounds_toArray, List.set_cons_zero, List.set_cons_succ])
            refine wpAnyH_done (by kernel_rfl) ?_ _
            go_wp2
            go_ret
            exact ⟨rfl, (by repeat (first | with_reducible exact bl_trans HW5.out HB7.out | refine bl_drewN ?_ _ | refine Below.drew ?_))⟩
        · obtain rfl : q = m := by omega
          obtain rfl : b = true := by
            rw [← HR.out]
            have hall : js.take q = js := List.take_of_length_le (by rw [HM.out]; omega)
            have := HP.out
            rw [hall] at this
            exact jobs_parts.2 ⟨HS.out, by rw [HM.out]; omega, this⟩
          go_wp2
          go_ret
          exact ⟨rfl, HB.out⟩
end
end Go.Proofs.YtgponahmkjohiabGreatDoor
