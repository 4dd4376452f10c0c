import Derived.Test.YtgponahmkjohiaaGreatDoorProg
import Derived.WalkKit
import Derived.WalkSpells
import Derived.WalkLawsBesides
import Derived.Lib.Hide
import Derived.Deep.QuietTactic
import Derived.Deep.Draws
import Derived.BigQuiet
import Derived.IntWalk
import Derived.Maps.AppendAt
import Derived.Deep.AppendLies
import Derived.Deep.RegionHeld3
import Derived.Deep.RegionLaw
import Derived.LoopTactic
import Derived.Laws.CopyRow
import Derived.Laws.Externs
import Derived.Lib.Overlaps
import Derived.Laws.AppendOwnNone
import Derived.Test.YtgponahmkjohiaaGreatDoorZNA
import Derived.Test.YtgponahmkjohiaaGreatDoorZNB
import Derived.RegionTactic
import Derived.ChangeAlike
import Derived.ScopeJumps
import Derived.WalkMore
import Derived.Shelf.Abstract
import Derived.Test.YtgponahmkjohiaaGreatDoorZND
import Derived.Test.YtgponahmkjohiaaGreatDoorZNE
import Derived.Deep.RegionWith
import Derived.Test.YtgponahmkjohiaaGreatDoorZNF
import Derived.Laws.IdiomStrings
import Derived.Test.YtgponahmkjohiaaGreatDoorZMsA
import Derived.Test.YtgponahmkjohiaaGreatDoorZMsB
import Derived.Test.YtgponahmkjohiaaGreatDoorZMsC
import Derived.Test.YtgponahmkjohiaaGreatDoorZMsD
import Derived.Test.YtgponahmkjohiaaGreatDoorZMcR
import Derived.Test.YtgponahmkjohiaaGreatDoorZMsE
import Derived.Test.YtgponahmkjohiaaGreatDoorZNC
import Derived.Test.YtgponahmkjohiaaGreatDoorZPmA
import Derived.Test.YtgponahmkjohiaaGreatDoorZPmB
import Derived.Test.YtgponahmkjohiaaGreatDoorZPmC
import Derived.Test.YtgponahmkjohiaaGreatDoorZPmD
import Derived.Test.YtgponahmkjohiaaGreatDoorZMcK
import Derived.Test.YtgponahmkjohiaaGreatDoorZPmE
import Derived.Test.YtgponahmkjohiaaGreatDoorZPmF
import Derived.Test.YtgponahmkjohiaaGreatDoorZPmG
import Derived.Test.YtgponahmkjohiaaGreatDoorZPmH
import Derived.Test.YtgponahmkjohiaaGreatDoorZPmI
import Derived.Test.YtgponahmkjohiaaGreatDoorZPmJ
import Derived.Test.YtgponahmkjohiaaGreatDoorZRepM
import Derived.Test.YtgponahmkjohiaaGreatDoorZNI
import Derived.Test.YtgponahmkjohiaaGreatDoorZPmK
import Derived.Test.YtgponahmkjohiaaGreatDoorZMsF
import Derived.Test.YtgponahmkjohiaaGreatDoorZMcH
import Derived.Test.YtgponahmkjohiaaGreatDoorZMcI
import Derived.Test.YtgponahmkjohiaaGreatDoorZVirL
import Derived.Test.YtgponahmkjohiaaGreatDoorZMcJ
import Derived.Test.YtgponahmkjohiaaGreatDoorZNG
import Derived.Test.YtgponahmkjohiaaGreatDoorZMcL
import Derived.Test.YtgponahmkjohiaaGreatDoorZMcN
import Derived.Test.YtgponahmkjohiaaGreatDoorZNH
import Derived.Test.YtgponahmkjohiaaGreatDoorZDr7
import Derived.Test.YtgponahmkjohiaaGreatDoorRows
import Derived.Test.YtgponahmkjohiaaGreatDoorZPmL
import Derived.Test.YtgponahmkjohiaaGreatDoorZDrA
import Derived.Test.YtgponahmkjohiaaGreatDoorZFrameC
import Derived.Test.YtgponahmkjohiaaGreatDoorZFrameV
namespace Go.Proofs.YtgponahmkjohiaaGreatDoor
section
open Go.RowKit
set_option linter.unusedVariables false
/-- A list of numbers as the result, and whether there is one. -/
def ZsRes (zs : List Int) (w : World) (e : Ending) (w' : World) : Prop :=
  ∃ (A : Option Addr) (c : Nat), e = .returned (.slice A zs.length c) ∧ OwnZ w' w.heap.size (.slice A zs.length c) zs ∧ Below w.heap.size w w'
end
end Go.Proofs.YtgponahmkjohiaaGreatDoor

namespace Go.Proofs.YtgponahmkjohiaaGreatDoor
section
open Go.RowKit
set_option linter.unusedVariables false
/-- Places at which something is so. -/
def placesI (P : Nat → Bool) : Nat → List Int
  | 0 => []
  | n + 1 => if P n then placesI P n ++ [(n : Int)] else placesI P n
theorem places_no {P : Nat → Bool} {n : Nat} (h : P n = false) : placesI P (n + 1) = placesI P n := by
  show (if P n then _ else _) = _
  rw [h]; rfl
theorem places_yes {P : Nat → Bool} {n : Nat} (h : P n = true) : placesI P (n + 1) = placesI P n ++ [(n : Int)] := by
  show (if P n then _ else _) = _
  rw [h]; rfl
end
section
open Go.RowKit
set_option linter.unusedVariables false
/-- The places of jobs that need more than their low need. -/
def highI (ts : List Tk) : Nat → List Jb → List Int
  | _, [] => []
  | k, j :: js => (if (tkOf ts j.ta).lo < j.ne then [(k : Int)] else []) ++ highI ts (k + 1) js
def highV (ts : List Tk) (js : List Jb) : List Int := if jobsB ts js then highI ts 0 js else []
theorem high_app (ts : List Tk) : ∀ (xs ys : List Jb) (k : Nat), highI ts k (xs ++ ys) = highI ts k xs ++ highI ts (k + xs.length) ys
  | [], ys, k => by simp [highI]
  | j :: xs, ys, k => by
    rw [List.cons_append, highI, highI, high_app ts xs ys (k + 1), List.append_assoc]
    congr 3
    simp; omega
theorem high_take {ts : List Tk} {js : List Jb} {q : Nat} {j : Jb} (h : js[q]? = some j) : highI ts 0 (js.take (q + 1)) = highI ts 0 (js.take q) ++ if (tkOf ts j.ta).lo < j.ne then [(q : Int)] else [] := by
  have hq := (List.getElem?_eq_some_iff.1 h).1
  rw [List.take_add_one, h, Option.toList_some, high_app]
  congr 1
  rw [List.length_take, Nat.min_eq_left (Nat.le_of_lt hq), Nat.zero_add]
  simp [highI]
end
section
open Go.RowKit
set_option linter.unusedVariables false
section
variable {ts : List Tk} {js : List Jb} {p : Po}
theorem g_step (n k : Nat) : gN ts js p n k ≤ gN ts js p (n + 1) k ∧ gN ts js p (n + 1) k ≤ gN ts js p n k + 1 := by
  show gN ts js p n k ≤ (if chN ts js p n = some k then gN ts js p n k + 1 else gN ts js p n k) ∧ (if chN ts js p n = some k then gN ts js p n k + 1 else gN ts js p n k) ≤ _
  split <;> omega
end
end
section
open Go.RowKit
set_option linter.unusedVariables false
theorem sumZ_nonneg {f : Nat → Int} {n : Nat} (h : ∀ k, k < n → 0 ≤ f k) : 0 ≤ sumZ f n := by
  have := sumZ_le (f := fun _ => 0) (g := f) h
  rwa [sumZ_zero (fun _ _ => rfl)] at this
/-- How many have a property. -/
def cntZ (P : Nat → Bool) (n : Nat) : Int := sumZ (fun k => if P k then 1 else 0) n
theorem cntZ_succ (P : Nat → Bool) (n : Nat) : cntZ P (n + 1) = cntZ P n + if P n then 1 else 0 := rfl
theorem cntZ_nonneg (P : Nat → Bool) (n : Nat) : 0 ≤ cntZ P n := sumZ_nonneg fun k _ => by split <;> omega
end
section
open Go.RowKit
set_option linter.unusedVariables false
theorem places_cnt (P : Nat → Bool) : ∀ n : Nat, ((placesI P n).length : Int) = cntZ P n
  | 0 => rfl
  | n + 1 => by
    rw [cntZ_succ, ← places_cnt P n]
    show (((if P n = true then placesI P n ++ [(n : Int)] else placesI P n).length : Nat) : Int) = _
    by_cases h : P n = true
    · simp [h]
    · simp [h]
section
variable {ts : List Tk} {js : List Jb} {p : Po}
/-- There are no more switches than jobs that need more. -/
theorem sw_count (hv : jobsB ts js = true) : ∀ n, ((runM ts js p n).sw.length : Int) ≤ cntZ (fun k => decide ((tkJ ts js k).lo < (jobOf js k).ne) && decide ((tkJ ts js k).lo ≤ gN ts js p n k)) js.length
  | 0 => cntZ_nonneg _ _
  | n + 1 => by
    have ih := sw_count hv n
    rw [sw_next hv, List.length_append]
    have hmono : cntZ (fun k => decide ((tkJ ts js k).lo < (jobOf js k).ne) && decide ((tkJ ts js k).lo ≤ gN ts js p n k)) js.length ≤ cntZ (fun k => decide ((tkJ ts js k).lo < (jobOf js k).ne) && decide ((tkJ ts js k).lo ≤ gN ts js p (n + 1) k)) js.length := by
      refine sumZ_le fun k _ => ?_
      have := (g_step (ts := ts) (js := js) (p := p) n k).1
      try dsimp only
      by_cases h : (tkJ ts js k).lo < (jobOf js k).ne ∧ (tkJ ts js k).lo ≤ gN ts js p n k
      · rw [if_pos (by simp [h]), if_pos (by simp [h]; omega)]; exact Int.le_refl _
      · rw [if_neg (by simpa using h)]; split <;> omega
    by_cases hs : swN ts js p n = true
    · rw [if_pos hs]
      obtain ⟨hlow, c, h1, h2, h3, h4⟩ := sw_of hs
      have ho := (ch_some hv h1).1
      have hl := (opn_len hv ho).1
      have hg := (opn_g hv ho).2.2.2 hlow
      have hle := g_le (p := p) hv hl (n + 1)
      have hb : cntZ (fun k => decide ((tkJ ts js k).lo < (jobOf js k).ne) && decide ((tkJ ts js k).lo ≤ gN ts js p n k)) js.length + 1 ≤ cntZ (fun k => decide ((tkJ ts js k).lo < (jobOf js k).ne) && decide ((tkJ ts js k).lo ≤ gN ts js p (n + 1) k)) js.length := by
        have e : (1 : Int) = sumZ (fun k => if k = c then 1 else 0) js.length := by
          rw [sumZ_point (f := fun k => if k = c then (1 : Int) else 0) hl (fun k _ hk => if_neg hk)]; simp
        rw [e]
        unfold cntZ
        rw [← sumZ_add]
        refine sumZ_le fun k _ => ?_
        have := (g_step (ts := ts) (js := js) (p := p) n k).1
        try dsimp only
        by_cases hk : k = c
        · subst hk
          rw [if_neg (by simp; omega), if_pos rfl, if_pos (by simp; omega)]
          omega
        · rw [if_neg hk]
          by_cases h : (tkJ ts js k).lo < (jobOf js k).ne ∧ (tkJ ts js k).lo ≤ gN ts js p n k
          · rw [if_pos (by simp [h]), if_pos (by simp [h]; omega)]; omega
          · rw [if_neg (by simpa using h)]; split <;> omega
      simp
      omega
    · rw [if_neg hs]
      simp
      omega
end
end
end Go.Proofs.YtgponahmkjohiaaGreatDoor

namespace Go.Proofs.YtgponahmkjohiaaGreatDoor
section
open Go.RowKit
set_option linter.unusedVariables false
set_option maxRecDepth 100000 in
set_option maxHeartbeats 4000000 in
theorem iPlI_is (w : World) (A2 : Option Addr) (m c2 : Nat) (xs : List Int) (h2 : Zs w w.heap.size A2 m xs) (hm : m ≤ 1100000) (k : Nat) (cap : Array Value) (P : Nat → Bool)
    (ek : ∀ args w, (callFunc k args).run Tryz.prog w = .ok (.enter k args) w)
    (hfn : ∀ (W : World) (q : Nat) (j : Int), xs[q]? = some j → Below w.heap.size w W → Calls Tryz.prog k (#[.int .i64 (q : Int), .int .i64 j] ++ cap) W fun e W' => e = .returned (.bool (P q)) ∧ Below W.heap.size W W') :
    Calls Tryz.prog 53 #[.slice A2 m c2, .func (.func k) #[] cap] w (ZsRes (placesI P m) w) := by
  obtain ⟨i0, hi, hz0, hz1, hz2⟩ := info_parts info_int
  have J := Lib.hid h2
  have HM := Lib.hid h2.len
  have HFN := Lib.hid hfn
  clear h2 hfn
  go_enter Tryz.func53, Tryz.ntmps53
  go_wp2
  go_loopw [5, 10] (fun v i wr => ∃ q : Nat, ∃ zs : List Int, q ≤ m ∧ i = .int .i64 q ∧ zs.length ≤ q ∧ Hid (zs = placesI P q) ∧ Hid (OwnZ wr w.heap.size v zs) ∧ Hid (Below w.heap.size w wr)) (fun _ i _ => m - (intOf i).toNat)
  case atStart => exact ⟨0, [], Nat.zero_le _, rfl, Nat.le_refl _, Lib.hid rfl, Lib.hid ⟨rfl, .inl ⟨rfl, rfl⟩⟩, Lib.hid (Below.refl _ _)⟩
  case round =>
    obtain ⟨q, zs, hq, rfl, hzl, HZ, HO, HB⟩ := hrel
    obtain ⟨A3, c3, rfl⟩ := HO.out.form
    by_cases hqm : q < m
    · have q2 : (q : Int) < (m : Int) := by omega
      obtain ⟨j, hj⟩ : ∃ j, xs[q]? = some j := ⟨xs[q]'(by rw [HM.out]; exact hqm), List.getElem?_eq_getElem _⟩
      obtain ⟨bj, oj, rfl, hbj, a0⟩ := (J.out.below HB.out).at_ q j hj
      have hw1 : w.heap.size ≤ wr.heap.size := HB.out.size
      obtain ⟨b, hPb⟩ : ∃ b, P q = b := ⟨_, rfl⟩
      have HPB := Lib.hid hPb
      have hc := HFN.out wr q _ hj HB.out
      rw [hPb] at hc
      have HC := Lib.hid hc
      clear hj hPb hc
      go_wp2_with fail
      go_at_fn k
      refine HC.out.mono ?_
      rintro e w5 ⟨rfl, hb⟩
      have HB5 := Lib.hid (show Below w.heap.size w w5 from bl_trans HB.out hb)
      have HO5 := Lib.hid (show OwnZ w5 w.heap.size (.slice A3 zs.length c3) zs from HO.out.below hb)
      have hs5 : w.heap.size ≤ w5.heap.size := HB5.out.size
      clear hb HC
      cases b
      · have HN := Lib.hid (places_no HPB.out)
        go_wp2
        go_roundw
        case rel => exact ⟨q + 1, zs, by omega, by go_num, by omega, Lib.hid (by rw [HN.out, HZ.out]), HO5, HB5⟩
        case measure => simp [intOf]; omega
      · have HN := Lib.hid (places_yes HPB.out)
        go_wp2_with (at_builtin; refine wpList_append_own _ rfl (.tmp 19) (.tmp 21) 27 rfl w.heap.size 3 i0 _ 1 8 Tryz.underlying27 hi hz0 hz1 hz2 rfl (by decide) _ zs.length (zs.map (Value.int .i64)) rfl (HO5.out.alloc _) ⟨w5.heap.size, 0, none⟩ 1 1 [Value.int .i64 (q : Int)] rfl rfl (cell_new1_at _ _ _ _ rfl) (by intro u hu; rw [List.mem_singleton.1 hu]; rfl) (by unfold maxLen; omega) (by omega) (by simp; omega) ?_; intro v2 w9 hown2 hgrow2 _; have HO2 := Lib.hid (show OwnZ w9 w.heap.size v2 (zs ++ [(q : Int)]) from OwnZ.snoc hown2); have HB9 := Lib.hid ((bl_alloc HB5.out _).grown hgrow2 (by simp; omega) (fun k e => (World.ownsRow.lt HO5.out k e).1)); clear hown2 hgrow2)
        go_wp2
        go_roundw
        case rel => exact ⟨q + 1, zs ++ [(q : Int)], by omega, by go_num, by simp; omega, Lib.hid (by rw [HN.out, HZ.out]), HO2, HB9⟩
        case measure => simp [intOf]; omega
    · obtain rfl : q = m := by omega
      go_wp2
      go_ret
      rw [← HZ.out]
      exact ⟨A3, c3, rfl, HO.out, HB.out⟩
end
section
open Go.RowKit
set_option linter.unusedVariables false
set_option maxRecDepth 100000 in
set_option maxHeartbeats 4000000 in
theorem iPlJ_is (w : World) (A2 : Option Addr) (m c2 : Nat) (js : List Jb) (h2 : Jbs w w.heap.size A2 m js) (hm : m ≤ 1100000) (k : Nat) (cap : Array Value) (P : Nat → Bool)
    (ek : ∀ args w, (callFunc k args).run Tryz.prog w = .ok (.enter k args) w)
    (hfn : ∀ (W : World) (q : Nat) (j : Jb), js[q]? = some j → Below w.heap.size w W → Calls Tryz.prog k (#[.int .i64 (q : Int), j.val] ++ cap) W fun e W' => e = .returned (.bool (P q)) ∧ Below W.heap.size W W') :
    Calls Tryz.prog 42 #[.slice A2 m c2, .func (.func k) #[] cap] w (ZsRes (placesI P m) w) := by
  obtain ⟨i0, hi, hz0, hz1, hz2⟩ := info_parts info_int
  have J := Lib.hid h2
  have HM := Lib.hid h2.len
  have HFN := Lib.hid hfn
  clear h2 hfn
  go_enter Tryz.func42, Tryz.ntmps42
  go_wp2
  go_loopw [5, 10] (fun v i wr => ∃ q : Nat, ∃ zs : List Int, q ≤ m ∧ i = .int .i64 q ∧ zs.length ≤ q ∧ Hid (zs = placesI P q) ∧ Hid (OwnZ wr w.heap.size v zs) ∧ Hid (Below w.heap.size w wr)) (fun _ i _ => m - (intOf i).toNat)
  case atStart => exact ⟨0, [], Nat.zero_le _, rfl, Nat.le_refl _, Lib.hid rfl, Lib.hid ⟨rfl, .inl ⟨rfl, rfl⟩⟩, Lib.hid (Below.refl _ _)⟩
  case round =>
    obtain ⟨q, zs, hq, rfl, hzl, HZ, HO, HB⟩ := hrel
    obtain ⟨A3, c3, rfl⟩ := HO.out.form
    by_cases hqm : q < m
    · have q2 : (q : Int) < (m : Int) := by omega
      obtain ⟨j, hj⟩ : ∃ j, js[q]? = some j := ⟨js[q]'(by rw [HM.out]; exact hqm), List.getElem?_eq_getElem _⟩
      obtain ⟨bj, oj, rfl, hbj, a0, a1, a2⟩ := (J.out.below HB.out).at_ q j hj
      obtain ⟨ta, tm, ne⟩ := j
      dsimp only at a0 a1 a2
      have hw1 : w.heap.size ≤ wr.heap.size := HB.out.size
      have cJ := (Blk.new wr 40 #[.int .i64 ta, .int .i64 tm, .int .i64 ne]).cell
      obtain ⟨b, hPb⟩ : ∃ b, P q = b := ⟨_, rfl⟩
      have HPB := Lib.hid hPb
      have hc := HFN.out (wr.alloc (.cells #[.int .i64 ta, .int .i64 tm, .int .i64 ne] 40)) q _ hj (bl_alloc HB.out _)
      rw [hPb] at hc
      have HC := Lib.hid hc
      clear hj hPb hc
      go_wp2_with fail
      go_at_fn k
      refine HC.out.mono ?_
      rintro e w5 ⟨rfl, hb⟩
      have HB5 := Lib.hid (show Below w.heap.size w w5 from bl_trans (bl_alloc HB.out _) hb)
      have HO5 := Lib.hid (show OwnZ w5 w.heap.size (.slice A3 zs.length c3) zs from (HO.out.alloc _).below hb)
      have hs5 : w.heap.size ≤ w5.heap.size := HB5.out.size
      clear hb HC
      cases b
      · have HN := Lib.hid (places_no HPB.out)
        go_wp2
        go_roundw
        case rel => exact ⟨q + 1, zs, by omega, by go_num, by omega, Lib.hid (by rw [HN.out, HZ.out]), HO5, HB5⟩
        case measure => simp [intOf]; omega
      · have HN := Lib.hid (places_yes HPB.out)
        go_wp2_with (at_builtin; refine wpList_append_own _ rfl (.tmp 19) (.tmp 21) 27 rfl w.heap.size 3 i0 _ 1 8 Tryz.underlying27 hi hz0 hz1 hz2 rfl (by decide) _ zs.length (zs.map (Value.int .i64)) rfl (HO5.out.alloc _) ⟨w5.heap.size, 0, none⟩ 1 1 [Value.int .i64 (q : Int)] rfl rfl (cell_new1_at _ _ _ _ rfl) (by intro u hu; rw [List.mem_singleton.1 hu]; rfl) (by unfold maxLen; omega) (by omega) (by simp; omega) ?_; intro v2 w9 hown2 hgrow2 _; have HO2 := Lib.hid (show OwnZ w9 w.heap.size v2 (zs ++ [(q : Int)]) from OwnZ.snoc hown2); have HB9 := Lib.hid ((bl_alloc HB5.out _).grown hgrow2 (by simp; omega) (fun k e => (World.ownsRow.lt HO5.out k e).1)); clear hown2 hgrow2)
        go_wp2
        go_roundw
        case rel => exact ⟨q + 1, zs ++ [(q : Int)], by omega, by go_num, by simp; omega, Lib.hid (by rw [HN.out, HZ.out]), HO2, HB9⟩
        case measure => simp [intOf]; omega
    · obtain rfl : q = m := by omega
      go_wp2
      go_ret
      rw [← HZ.out]
      exact ⟨A3, c3, rfl, HO.out, HB.out⟩
end
end Go.Proofs.YtgponahmkjohiaaGreatDoor

namespace Go.Proofs.YtgponahmkjohiaaGreatDoor
section
open Go.RowKit
set_option linter.unusedVariables false
def dropP (en : List Int) (q : Nat) : Bool := en.getD q 0 == -2
set_option maxRecDepth 100000 in
set_option maxHeartbeats 2000000 in
theorem iDropped_is (w : World) (A1 : Option Addr) (n1 c1 : Nat) (A2 : Option Addr) (n2 c2 : Nat) (A3 : Option Addr) (n3 c3 : Nat) (hi : Bool) (en : List Int) (h : Zs w w.heap.size A1 n1 en) (hn : n1 ≤ 1100000) :
    Calls Tryz.prog 27 #[.agg #[.slice A1 n1 c1, .slice A2 n2 c2, .slice A3 n3 c3, .bool hi]] w (ZsRes (placesI (dropP en) n1) w) := by
  go_enter Tryz.func27, Tryz.ntmps27
  go_wp2_with fail
  refine (iPlI_is _ A1 n1 c1 en ((h.below (bl_alloc (Below.refl _ w) _)).more (by simp)) hn 54 #[] (dropP en) (fun _ _ => rfl) (fun W q j hj hbW => ?_)).mono ?_
  · have hd : dropP en q = (j == -2) := by unfold dropP; simp [List.getD, hj]
    rw [hd]
    show Calls _ _ #[.int .i64 (q : Int), .int .i64 j] _ _
    clear hd hj hbW
    go_enter Tryz.func54, Tryz.ntmps54
    go_wp2
    go_ret
    exact ⟨rfl, Below.refl _ _⟩
  rintro e w2 ⟨A3, c3, rfl, ho, hb⟩
  have HO := Lib.hid (show OwnZ w2 w.heap.size _ _ from OwnZ.less ho (by simp))
  have HB := Lib.hid (bl_trans (bl_alloc (Below.refl _ w) _) hb)
  clear ho hb
  go_wp2
  go_ret
  exact ⟨A3, c3, rfl, HO.out, HB.out⟩
end
end Go.Proofs.YtgponahmkjohiaaGreatDoor

namespace Go.Proofs.YtgponahmkjohiaaGreatDoor
open Go.RowKit
set_option linter.unusedVariables false
def needsB (ts : List Tk) (js : List Jb) (q : Nat) : Bool := decide ((tkOf ts (js.getD q ⟨0, 0, 0⟩).ta).lo < (js.getD q ⟨0, 0, 0⟩).ne)
theorem high_places (ts : List Tk) (js : List Jb) : ∀ q : Nat, q ≤ js.length → highI ts 0 (js.take q) = placesI (needsB ts js) q
  | 0, _ => rfl
  | q + 1, h => by
    have hg : js[q]? = some (js[q]'(by omega)) := List.getElem?_eq_getElem (by omega)
    have hd : js.getD q ⟨0, 0, 0⟩ = js[q]'(by omega) := by simp [List.getD, hg]
    rw [high_take hg, high_places ts js q (by omega)]
    by_cases e : needsB ts js q = true
    · rw [places_yes e, if_pos]
      unfold needsB at e
      rw [hd] at e
      simpa using e
    · rw [places_no (by simpa using e), if_neg, List.append_nil]
      intro h2
      refine e ?_
      unfold needsB
      rw [hd]
      simpa using h2
set_option maxRecDepth 100000 in
set_option maxHeartbeats 4000000 in
theorem iHighClo_is (W : World) (g : Nat) (A : Option Addr) (n c : Nat) (ts : List Tk) (h : Tks W W.heap.size A n ts) (hg : W.cell? ⟨g, 0, none⟩ = some (.slice A n c)) (q : Nat) (j : Jb) (hj : jobB ts j = true) :
    Calls Tryz.prog 52 #[.int .i64 (q : Int), j.val, .pointer (some ⟨g, 0, none⟩)] W fun e W' => e = .returned (.bool (decide ((tkOf ts j.ta).lo < j.ne))) ∧ Below W.heap.size W W' := by
  obtain ⟨b1, b2, b3, b4, b5, b6⟩ := jobB_iff.1 hj
  obtain ⟨x, t, hx, hxk, ht, htk⟩ := tk_get b1 b2
  have hgl : g < W.heap.size := block_lt_of_cell hg
  rw [htk]
  have hxn : x < n := by rw [← h.len]; exact hxk
  have hxi : (x : Int) < (n : Int) := by omega
  have hx0 : (0 : Int) ≤ (x : Int) := by omega
  obtain ⟨bt, ot, rfl, hbt, c0, _, _, _, _⟩ := h.at_ x t ht
  obtain ⟨ta, tm, ne⟩ := j
  obtain ⟨lo, hi', du, ev, cr⟩ := t
  dsimp only at c0 hx ⊢
  subst hx
  unfold Jb.val
  dsimp only
  have cJ := (Blk.new W 40 #[.int .i64 (x : Int), .int .i64 tm, .int .i64 ne]).cell
  have c0a := (World.cell?_alloc_lt W (.cells #[.int .i64 (x : Int), .int .i64 tm, .int .i64 ne] 40) ⟨bt, ot + x * 5, none⟩ hbt).trans c0
  have cga := (World.cell?_alloc_lt W (.cells #[.int .i64 (x : Int), .int .i64 tm, .int .i64 ne] 40) ⟨g, 0, none⟩ hgl).trans hg
  clear h hj b1 b2 b3 b4 b5 b6 ht htk hxk hbt hg c0 hgl
  by_cases hd : lo < ne
  · have d1 : decide (lo < ne) = true := decide_eq_true hd
    clear hd
    go_enter Tryz.func52, Tryz.ntmps52
    go_wp2
    go_quiet (fail)
    go_wp2
    go_ret
    exact ⟨by rw [d1]; rfl, bl_drewN (bl_alloc (Below.refl _ _) _) _⟩
  · have d1 : decide (lo < ne) = false := decide_eq_false hd
    clear hd
    go_enter Tryz.func52, Tryz.ntmps52
    go_wp2
    go_quiet (fail)
    go_wp2
    go_ret
    exact ⟨by rw [d1]; rfl, bl_drewN (bl_alloc (Below.refl _ _) _) _⟩
set_option maxRecDepth 100000 in
set_option maxHeartbeats 4000000 in
theorem iHighJ_is (w : World) (A : Option Addr) (n c : Nat) (ts : List Tk) (h : Tks w w.heap.size A n ts) (hn : n ≤ 1048576) (A2 : Option Addr) (m c2 : Nat) (js : List Jb) (h2 : Jbs w w.heap.size A2 m js) :
    Calls Tryz.prog 26 #[.slice A n c, .slice A2 m c2] w (ZsRes (highV ts js) w) := by
  have HB0 := Lib.hid (bl_alloc (Below.refl w.heap.size w) (.cells #[.slice A n c] 23))
  have bL := Lib.hid (Blk.new w 23 #[.slice A n c])
  have H := Lib.hid ((h.below HB0.out).more HB0.out.size)
  have J := Lib.hid ((h2.below HB0.out).more HB0.out.size)
  have HM := Lib.hid h2.len
  have cL := bL.out.cell
  clear h h2
  cases hjb : jobsB ts js
  · have hv : highV ts js = [] := by unfold highV; rw [hjb]; rfl
    rw [hv]
    have HX := Lib.hid (iJobs_is _ A n c ts H.out hn A2 m c2 js J.out false hjb)
    clear hjb hv
    go_enter Tryz.func26, Tryz.ntmps26
    go_wp2_with fail
    refine HX.out.mono ?_
    rintro e w1 ⟨rfl, hb⟩
    have HB1 := Lib.hid (bl_trans HB0.out hb)
    clear hb
    go_wp2
    go_ret
    exact ⟨none, 0, rfl, ⟨rfl, .inl ⟨rfl, rfl⟩⟩, HB1.out⟩
  have hm60 : m ≤ 60 := by have := jobs_len hjb; rw [HM.out] at this; exact this
  have hv : highV ts js = placesI (needsB ts js) m := by
    have h1 := high_places ts js m (by rw [HM.out]; exact Nat.le_refl _)
    rw [List.take_of_length_le (by rw [HM.out]; exact Nat.le_refl _)] at h1
    unfold highV; rw [hjb, ← h1]; rfl
  rw [hv]
  have HJB := Lib.hid hjb
  have HX := Lib.hid (iJobs_is _ A n c ts H.out hn A2 m c2 js J.out true hjb)
  clear hv hjb
  go_enter Tryz.func26, Tryz.ntmps26
  go_wp2_with fail
  refine HX.out.mono ?_
  rintro e w1 ⟨rfl, hb⟩
  have HB1 := Lib.hid (bl_trans HB0.out hb)
  have bL1 := Lib.hid (bL.out.below hb (by simp))
  have H1 := Lib.hid ((H.out.below hb).more hb.size)
  have J1 := Lib.hid ((J.out.below hb).more hb.size)
  clear hb HX
  go_wp2_with fail
  refine (iPlJ_is _ A2 m c2 js J1.out (by omega) 52 #[.pointer (some ⟨w.heap.size, 0, none⟩)] (needsB ts js) (fun _ _ => rfl) (fun W q j hj hbW => ?_)).mono ?_
  · have hd : js.getD q ⟨0, 0, 0⟩ = j := by simp [List.getD, hj]
    have := iHighClo_is W w.heap.size A n c ts ((H1.out.below hbW).more hbW.size) ((bL1.out.below hbW bL1.out.lt).cell 0) q j (jobs_job HJB.out (List.mem_of_getElem? hj))
    unfold needsB
    rw [hd]
    exact this
  rintro e w2 ⟨A3, c3, rfl, ho, hb⟩
  have HB2 := Lib.hid (bl_trans HB1.out hb)
  have HO := Lib.hid (show OwnZ w2 w.heap.size _ _ from OwnZ.less ho HB1.out.size)
  clear ho hb
  go_wp2
  go_ret
  exact ⟨A3, c3, rfl, HO.out, HB2.out⟩
end Go.Proofs.YtgponahmkjohiaaGreatDoor

namespace Go.Proofs.YtgponahmkjohiaaGreatDoor
open Go.RowKit
set_option linter.unusedVariables false
section
variable {ts : List Tk} {js : List Jb} {p : Po}
theorem places_nil {P : Nat → Bool} : ∀ {n : Nat}, (∀ k, k < n → P k = false) → placesI P n = []
  | 0, _ => rfl
  | n + 1, h => by
    unfold placesI
    rw [h n (by omega), if_neg (by decide)]
    exact places_nil fun k hk => h k (by omega)
end
end Go.Proofs.YtgponahmkjohiaaGreatDoor

namespace Go.Proofs.YtgponahmkjohiaaGreatDoor
open Go.RowKit
set_option linter.unusedVariables false
section
variable {ts : List Tk} {js : List Jb} {p : Po}
theorem high_is (hv : jobsB ts js = true) : highV ts js = placesI (needsB ts js) js.length := by
  have h := high_places ts js js.length (Nat.le_refl _)
  rw [List.take_of_length_le (Nat.le_refl _)] at h
  unfold highV
  rw [hv, if_pos rfl, h]
theorem needs_is (k : Nat) : needsB ts js k = decide ((tkJ ts js k).lo < (jobOf js k).ne) := rfl
theorem high_run (hv : jobsB ts js = true) (n : Nat) : (runM ts js p n).sw.length ≤ (highV ts js).length := by
  have h1 := sw_count (p := p) hv n
  have h2 : cntZ (fun k => decide ((tkJ ts js k).lo < (jobOf js k).ne) && decide ((tkJ ts js k).lo ≤ gN ts js p n k)) js.length ≤ cntZ (needsB ts js) js.length := by
    refine sumZ_le fun k _ => ?_
    try dsimp only
    rw [needs_is]
    by_cases h : (tkJ ts js k).lo < (jobOf js k).ne
    · by_cases h4 : (tkJ ts js k).lo ≤ gN ts js p n k <;> simp [h, h4]
    · simp [h]
  have h3 := places_cnt (needsB ts js) js.length
  rw [high_is hv]
  omega
theorem low_run (hv : jobsB ts js = true) (h : highV ts js = []) (n : Nat) : (runM ts js p n).sw = [] ∧ (runM ts js p n).hi = false ∧ ∀ m, placesI (dropP (runM ts js p n).en) m = [] := by
  have hsw : (runM ts js p n).sw = [] := by
    have := high_run (p := p) hv n
    rw [h] at this
    exact List.eq_nil_of_length_eq_zero (Nat.le_zero.1 this)
  refine ⟨hsw, ?_, fun m => places_nil fun k _ => ?_⟩
  · cases hh : (runM ts js p n).hi
    · rfl
    · exact absurd hsw (hi_sw hv n hh)
  · unfold dropP
    rcases Nat.lt_or_ge k js.length with hk | hk
    · rcases en_val hv (en_get (p := p) (n := n) hv hk) with e | ⟨e, _, e2⟩ | ⟨_, e, _⟩
      · rw [e]; rfl
      · exact absurd hsw e2
      · have := job_ok hv hk
        rw [beq_eq_false_iff_ne]; omega
    · have : (runM ts js p n).en[k]? = none := List.getElem?_eq_none (by rw [en_len hv]; exact hk)
      simp [List.getD, this]
end
end Go.Proofs.YtgponahmkjohiaaGreatDoor

namespace Go.Proofs.YtgponahmkjohiaaGreatDoor
open Go.RowKit
set_option linter.unusedVariables false
set_option maxRecDepth 100000 in
set_option maxHeartbeats 8000000 in
theorem fnRunLow_walk (w : World) (A : Option Addr) (n c : Nat) (f : Nat → Int) (h : Code w w.heap.size A n c f) (e0 : Addr) (he : EG w e0) :
    Calls Tryz.prog 8 #[.slice A n c] w fun e w' => e = .returned (.bool true) ∧ Below w.heap.size w w' := by
  have H := Lib.hid h
  have HE := Lib.hid he
  have hle := h.le
  have hmax := h.max
  unfold maxLen at hmax
  clear h he
  by_cases hn : 1048576 < n
  · go_enter Tryz.func8, Tryz.ntmps8
    go_wp2
    go_ret
    exact ⟨rfl, Below.refl _ _⟩
  go_enter Tryz.func8, Tryz.ntmps8
  go_wp2_with fail
  refine (dDrawRun_any _ A n c f H.out).mono ?_
  rintro e w1 ⟨A1, c1, ts, A2, c2, js, pol, tk, rfl, htl, hjl, p0, p1, k0, k1, ho, hoj, hb⟩
  have HB1 := Lib.hid hb
  have HO1 := Lib.hid ho
  have HOJ1 := Lib.hid hoj
  have HT1 := Lib.hid ho.reads.2
  have HJ1 := Lib.hid hoj.reads.2
  have hct := own_le ho
  have hs1 := hb.size
  clear hb ho hoj H
  obtain ⟨s, hs⟩ : ∃ s, runR ts js pol tk = s := ⟨_, rfl⟩
  obtain ⟨b, hb⟩ : ∃ b, okR ts js pol tk = b := ⟨_, rfl⟩
  have HLN : Hid (s.en.length ≤ 61 ∧ s.tr.length ≤ 200 ∧ s.sw.length ≤ 200) := Lib.hid (by rw [← hs]; exact runR_len10 ts js pol tk hjl)
  have HRJ := Lib.hid (iRunJobs_is w1 A1 ts.length c1 ts HT1.out (by omega) A2 js.length c2 js HJ1.out pol tk e0 (HE.out.below HB1.out))
  rw [hs, hb] at HRJ
  have HS := Lib.hid hs
  have HOK := Lib.hid hb
  clear hs hb
  go_wp2_with fail
  refine HRJ.out.mono ?_
  clear HRJ
  obtain ⟨en, tr, sw, hi, wkx, nxx⟩ := s
  rintro e w2 ⟨B1, d1, B2, d2, B3, d3, rfl, o1, o2, o3, _, _, _, hb⟩
  dsimp only at o1 o2 o3 HLN ⊢
  have HB2 := Lib.hid hb
  have hs2 := hb.size
  have HE2 := Lib.hid o1
  have HTR2 := Lib.hid o2
  have HSW2 := Lib.hid o3
  clear hb o1 o2 o3
  obtain ⟨wz2, hwz2⟩ : ∃ wz, w2.alloc (.cells #[.slice none 0 0, .slice none 0 0, .slice none 0 0, .bool false] 29) = wz := ⟨_, rfl⟩
  have hz2 : Blk wz2 w2.heap.size 29 #[.slice none 0 0, .slice none 0 0, .slice none 0 0, .bool false] := hwz2 ▸ Blk.new w2 _ _
  have bz2 : Below w2.heap.size w2 wz2 := hwz2 ▸ bl_alloc (Below.refl _ _) _
  obtain ⟨za2, zb2, zc2, zd2⟩ := Blk.quad hz2
  have zf2 := hz2.frozen
  obtain ⟨w3, hwn2⟩ : ∃ wn, (((wz2.setCell ⟨w2.heap.size, 0, none⟩ (.slice B1 en.length d1)).setCell ⟨w2.heap.size, 1, none⟩ (.slice B2 tr.length d2)).setCell ⟨w2.heap.size, 2, none⟩ (.slice B3 sw.length d3)).setCell ⟨w2.heap.size, 3, none⟩ (.bool hi) = wn := ⟨_, rfl⟩
  have hX2 : Blk w3 w2.heap.size 29 #[(.slice B1 en.length d1), (.slice B2 tr.length d2), (.slice B3 sw.length d3), (.bool hi)] := by
    rw [← hwn2]
    have h := (((hz2.set_ 0 ((.slice B1 en.length d1))).set_ 1 ((.slice B2 tr.length d2))).set_ 2 ((.slice B3 sw.length d3))).set_ 3 ((.bool hi))
    simpa using h
  have hY2 : Below w2.heap.size w2 w3 := by
    rw [← hwn2]
    exact (((bl_set bz2 (by dsimp only; omega) _).setCell (by dsimp only; omega) _).setCell (by dsimp only; omega) _).setCell (by dsimp only; omega) _
  have HX3 := Lib.hid hX2
  have HY3 := Lib.hid hY2
  have hs3 := hY2.size
  have HT3 := Lib.hid ((HT1.out.below (bl_trans HB2.out HY3.out)).more (by omega : w1.heap.size ≤ w3.heap.size))
  have HJ3 := Lib.hid ((HJ1.out.below (bl_trans HB2.out HY3.out)).more (by omega : w1.heap.size ≤ w3.heap.size))
  have HSR := Lib.hid (sRunJobs_is w3 A1 ts.length c1 ts HT3.out (by omega) A2 js.length c2 js HJ3.out pol tk)
  rw [HS.out, HOK.out] at HSR
  clear hX2 hY2 hz2 bz2
  go_wp2_with fail
  refine HSR.out.mono ?_
  clear HSR za2 zb2 zc2 zd2 zf2 hwz2 hwn2
  rintro e w4 ⟨C1, f1, C2, f2, C3, f3, rfl, o1, o2, o3, _, _, _, hb⟩
  dsimp only at o1 o2 o3 ⊢
  have HB4 := Lib.hid hb
  have hs4 := hb.size
  have HE4 := Lib.hid o1
  have HTR4 := Lib.hid o2
  have HSW4 := Lib.hid o3
  clear hb o1 o2 o3
  obtain ⟨wz4, hwz4⟩ : ∃ wz, w4.alloc (.cells #[.slice none 0 0, .slice none 0 0, .slice none 0 0, .bool false] 29) = wz := ⟨_, rfl⟩
  have hz4 : Blk wz4 w4.heap.size 29 #[.slice none 0 0, .slice none 0 0, .slice none 0 0, .bool false] := hwz4 ▸ Blk.new w4 _ _
  have bz4 : Below w4.heap.size w4 wz4 := hwz4 ▸ bl_alloc (Below.refl _ _) _
  obtain ⟨za4, zb4, zc4, zd4⟩ := Blk.quad hz4
  have zf4 := hz4.frozen
  obtain ⟨w5, hwn4⟩ : ∃ wn, (((wz4.setCell ⟨w4.heap.size, 0, none⟩ (.slice C1 en.length f1)).setCell ⟨w4.heap.size, 1, none⟩ (.slice C2 tr.length f2)).setCell ⟨w4.heap.size, 2, none⟩ (.slice C3 sw.length f3)).setCell ⟨w4.heap.size, 3, none⟩ (.bool hi) = wn := ⟨_, rfl⟩
  have hX4 : Blk w5 w4.heap.size 29 #[(.slice C1 en.length f1), (.slice C2 tr.length f2), (.slice C3 sw.length f3), (.bool hi)] := by
    rw [← hwn4]
    have h := (((hz4.set_ 0 ((.slice C1 en.length f1))).set_ 1 ((.slice C2 tr.length f2))).set_ 2 ((.slice C3 sw.length f3))).set_ 3 ((.bool hi))
    simpa using h
  have hY4 : Below w4.heap.size w4 w5 := by
    rw [← hwn4]
    exact (((bl_set bz4 (by dsimp only; omega) _).setCell (by dsimp only; omega) _).setCell (by dsimp only; omega) _).setCell (by dsimp only; omega) _
  have HX5 := Lib.hid hX4
  have HY5 := Lib.hid hY4
  have hs5 := hY4.size
  have HB25 : Hid (Below w2.heap.size w2 w5) := Lib.hid (bl_trans HY3.out (bl_trans HB4.out HY5.out))
  have HB15 : Hid (Below w1.heap.size w1 w5) := Lib.hid (bl_trans HB2.out HB25.out)
  have HB05 : Hid (Below w.heap.size w w5) := Lib.hid (bl_trans HB1.out HB15.out)
  have HX35 := Lib.hid (HX3.out.below (bl_trans HB4.out HY5.out) HX3.out.lt)
  have HE5 := Lib.hid (HE2.out.below HB25.out)
  have HTR5 := Lib.hid (HTR2.out.below HB25.out)
  have HSW5 := Lib.hid (HSW2.out.below HB25.out)
  have HRN5 : Hid (RnAt w5 B1 en.length B2 tr.length B3 sw.length en tr sw) := Lib.hid ⟨HE5.out.reads, HTR5.out.reads, HSW5.out.reads⟩
  have HRM5 : Hid (RnAt w5 C1 en.length C2 tr.length C3 sw.length en tr sw) := Lib.hid ⟨(HE4.out.below HY5.out).reads, (HTR4.out.below HY5.out).reads, (HSW4.out.below HY5.out).reads⟩
  have HT5 := Lib.hid ((HT1.out.below HB15.out).more (by omega : w1.heap.size ≤ w5.heap.size))
  have HJ5 := Lib.hid ((HJ1.out.below HB15.out).more (by omega : w1.heap.size ≤ w5.heap.size))
  have HEG5 := Lib.hid (HE.out.below HB05.out)
  have HSM := Lib.hid (iSame_is w5 B1 en.length d1 B2 tr.length d2 B3 sw.length d3 hi en tr sw C1 en.length f1 C2 tr.length f2 C3 sw.length f3 hi en tr sw HRN5.out HRM5.out (by have := HLN.out; omega) (by have := HLN.out; omega) (by have := HLN.out; omega) (by have := HLN.out; omega) (by have := HLN.out; omega) (by have := HLN.out; omega) true (sameR_self _ _ _ _))
  obtain ⟨x0, x1, x2, x3⟩ := Blk.quad HX35.out
  obtain ⟨y0, y1, y2, y3⟩ := Blk.quad HX5.out
  clear hX4 hY4 hz4 bz4 HT3 HJ3 HX3 HTR4 HE4 HSW4
  cases b
  · go_wp2_with fail
    refine HSM.out.mono ?_
    rintro e w6 ⟨rfl, hb6⟩
    have HB6 := Lib.hid hb6
    have HSM2 := Lib.hid (iSame_is w6 B1 en.length d1 B2 tr.length d2 B3 sw.length d3 hi en tr sw C1 en.length f1 C2 tr.length f2 C3 sw.length f3 hi en tr sw (HRN5.out.below hb6) (HRM5.out.below hb6) (by have := HLN.out; omega) (by have := HLN.out; omega) (by have := HLN.out; omega) (by have := HLN.out; omega) (by have := HLN.out; omega) (by have := HLN.out; omega) true (sameR_self _ _ _ _))
    obtain ⟨u0, u1, u2, u3⟩ := Blk.quad (HX35.out.below hb6 HX35.out.lt)
    obtain ⟨v0, v1, v2, v3⟩ := Blk.quad (HX5.out.below hb6 HX5.out.lt)
    clear hb6 x0 x1 x2 x3 y0 y1 y2 y3 hwz4 hwn4 za4 zb4 zc4 zd4 zf4
    go_wp2_with fail
    refine HSM2.out.mono ?_
    rintro e w7 ⟨rfl, hb7⟩
    have HB7 := Lib.hid (bl_trans HB05.out (bl_trans HB6.out hb7))
    clear hb7 u0 u1 u2 u3 v0 v1 v2 v3
    go_wp2
    go_ret
    exact ⟨rfl, HB7.out⟩
  have hv : jobsB ts js = true := (okR_iff.1 HOK.out).1
  have htk : 0 ≤ tk ∧ tk ≤ 200 := (okR_iff.1 HOK.out).2.2
  obtain ⟨T, hT⟩ : ∃ T : Nat, tk = (T : Int) := ⟨tk.toNat, by omega⟩
  subst hT
  have hT2 : T ≤ 200 := by omega
  have HRUN : Hid (runM ts js (poOf ts pol) T = ⟨en, tr, sw, hi, wkx, nxx⟩) := Lib.hid (by rw [← HS.out, runR_ok HOK.out]; rfl)
  have HV := Lib.hid hv
  have hj60 : js.length ≤ 60 := (wrsB_iff.1 (jobs_wrs hv)).1
  clear hv htk
  go_wp2_with fail
  refine HSM.out.mono ?_
  clear HSM hwz4 hwn4 za4 zb4 zc4 zd4 zf4 x0 x1 x2 x3 y0 y1 y2 y3 HRM5
  rintro e w6 ⟨rfl, hb6⟩
  have HB6 := Lib.hid hb6
  have HB06 : Hid (Below w.heap.size w w6) := Lib.hid (bl_trans HB05.out hb6)
  have HX6 := Lib.hid (HX35.out.below hb6 HX35.out.lt)
  have HE6 := Lib.hid (HE5.out.below hb6)
  have HTR6 := Lib.hid (HTR5.out.below hb6)
  have HSW6 := Lib.hid (HSW5.out.below hb6)
  have HT6 := Lib.hid ((HT5.out.below hb6).more hb6.size)
  have HJ6 := Lib.hid ((HJ5.out.below hb6).more hb6.size)
  have HEG6 := Lib.hid (HEG5.out.below hb6)
  have hs6 := hb6.size
  clear hb6 HX35 HE5 HTR5 HSW5 HT5 HJ5 HEG5 HB6 HX5 HB25 HB15 HB4 HY5 HRN5 HE2 HTR2 HSW2 HT1 HJ1 HO1 HOJ1 HB1 HB2 HY3 HE
  have HD6 := Lib.hid (Below.refl w6.heap.size w6)
  have hv : jobsB ts js = true := HV.out
  have htr : tr.length = T := by
    have := tr_len (p := poOf ts pol) hv T
    rw [HRUN.out] at this
    exact this
  have hen : en.length = js.length := by
    have := en_len (p := poOf ts pol) hv T
    rw [HRUN.out] at this
    exact this
  have HTL := Lib.hid htr
  have HENL := Lib.hid hen
  have hlen := HLN.out
  clear htr hen
  have hrun := high_run (p := poOf ts pol) hv T
  have hlow := fun h => low_run (p := poOf ts pol) hv h T
  rw [HRUN.out] at hrun hlow
  dsimp only at hrun hlow
  obtain ⟨hs, hhs⟩ : ∃ hs, highV ts js = hs := ⟨_, rfl⟩
  rw [hhs] at hrun hlow
  have hhl : hs.length ≤ 60 := by
    have := places_cnt (needsB ts js) js.length
    rw [← hhs, high_is hv]
    have h2 : cntZ (needsB ts js) js.length ≤ js.length := by
      have : ∀ n : Nat, cntZ (needsB ts js) n ≤ n := fun n => by
        induction n with
        | zero => exact Int.le_refl _
        | succ n ih => rw [cntZ_succ]; split <;> omega
      exact this _
    omega
  have HHV := Lib.hid hhs
  clear hv hhs
  have HI6 := Lib.hid (iHighJ_is w6 A1 ts.length c1 ts HT6.out (by omega) A2 js.length c2 js HJ6.out)
  rw [HHV.out] at HI6
  go_wp2_with fail
  refine HI6.out.mono ?_
  clear HI6
  rintro e w7 ⟨A7, c7, rfl, _, hb⟩
  have HD7 := Lib.hid hb
  clear hb
  obtain ⟨a0, a1, a2, a3⟩ := Blk.quad (HX6.out.below HD7.out HX6.out.lt)
  by_cases he : hs = []
  · obtain ⟨g1, g2, g3⟩ := hlow he
    subst he g1 g2
    have HP := Lib.hid g3
    clear hlow hrun g3
    have HI7 := Lib.hid (iDropped_is w7 B1 en.length d1 B2 tr.length d2 B3 0 d3 false en (HE6.out.below HD7.out).reads (by omega))
    rw [HP.out] at HI7
    go_wp2_with fail
    refine HI7.out.mono ?_
    clear HI7
    rintro e w8 ⟨A8, c8, rfl, _, hb⟩
    have HB8 := Lib.hid (bl_trans HB06.out (bl_trans HD7.out hb))
    clear hb
    go_wp2
    go_ret
    exact ⟨rfl, HB8.out⟩
  · have h0 : 0 < hs.length := List.length_pos_iff.2 he
    have e1 : decide (0 < (hs.length : Int)) = true := decide_eq_true (by omega)
    have e2 : decide (0 < hs.length) = true := decide_eq_true h0
    have e3 : decide ((sw.length : Int) ≤ (hs.length : Int)) = true := decide_eq_true (by omega)
    have e4 : decide (sw.length ≤ hs.length) = true := decide_eq_true hrun
    have HL1 := Lib.hid (fun (W : World) (hD : Below w7.heap.size w7 W) => show Calls Tryz.prog 26 #[.slice A1 ts.length c1, .slice A2 js.length c2] W (ZsRes hs W) from by
      have h := iHighJ_is W A1 ts.length c1 ts ((HT6.out.below (bl_trans HD7.out hD)).more (bl_trans HD7.out hD).size) (by omega) A2 js.length c2 js ((HJ6.out.below (bl_trans HD7.out hD)).more (bl_trans HD7.out hD).size)
      rw [HHV.out] at h
      exact h)
    have hz := HX6.out.lt
    have hz7 := HD7.out.size
    clear hlow he a0 a1 a3
    go_wp2
    go_region_held3 (fun W => W.cell? ⟨w2.heap.size, 2, none⟩ = some (.slice B3 sw.length d3)) (first | assumption | (simp [go_sem, *]; done))
      ((first
        | (go_at_call 26; (with_reducible refine (HL1.out _ ?_).mono ?_); (· (repeat (first | with_reducible exact Below.refl _ _ | with_reducible refine Below.drew ?_ | with_reducible refine bl_drewN ?_ _))); rintro e w8 ⟨A8, c8, rfl, _, hb⟩; have HS8 := Lib.hid (show Below w7.heap.size w7 w8 from bl_trans (by (repeat (first | with_reducible exact Below.refl _ _ | with_reducible refine Below.drew ?_ | with_reducible refine bl_drewN ?_ _))) hb); have f2 := (HS8.out.cell (p := ⟨w2.heap.size, 2, none⟩) (by dsimp only; omega)).trans a2; clear hb)))
    all_goals
      have HB9 := Lib.hid (bl_trans HB06.out (bl_trans HD7.out HS8.out))
      go_wp2
      go_ret
      exact ⟨by first | rfl | (simp; done) | (simp [e4]; done) | (simp [e3]; done), by repeat (first | with_reducible exact HB9.out | with_reducible refine Below.drew ?_ | with_reducible refine bl_drewN ?_ _)⟩
end Go.Proofs.YtgponahmkjohiaaGreatDoor
