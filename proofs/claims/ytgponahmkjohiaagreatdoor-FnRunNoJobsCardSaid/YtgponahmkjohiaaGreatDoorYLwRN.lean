import Derived.Test.YtgponahmkjohiaaGreatDoorProg
import Derived.Test.YtgponahmkjohiaaGreatDoorZNA
import Derived.Test.YtgponahmkjohiaaGreatDoorZNB
import Derived.RegionTactic
import Derived.ChangeAlike
import Derived.ScopeJumps
import Derived.WalkMore
import Derived.Shelf.Abstract
import Derived.Deep.RegionHeld3
import Derived.Test.YtgponahmkjohiaaGreatDoorZND
import Derived.Test.YtgponahmkjohiaaGreatDoorZNE
import Derived.Test.YtgponahmkjohiaaGreatDoorZNF
import Derived.LoopTactic
import Derived.Deep.QuietTactic
import Derived.BigQuiet
import Derived.Laws.IdiomStrings
import Derived.Test.YtgponahmkjohiaaGreatDoorZMsA
import Derived.Test.YtgponahmkjohiaaGreatDoorZMsB
import Derived.Test.YtgponahmkjohiaaGreatDoorZMsC
import Derived.Test.YtgponahmkjohiaaGreatDoorZMsD
import Derived.Test.YtgponahmkjohiaaGreatDoorZMcR
import Derived.Test.YtgponahmkjohiaaGreatDoorZMsE
import Derived.Test.YtgponahmkjohiaaGreatDoorZNC
import Derived.Test.YtgponahmkjohiaaGreatDoorZPmA
import Derived.Test.YtgponahmkjohiaaGreatDoorZPmB
import Derived.Test.YtgponahmkjohiaaGreatDoorZPmC
import Derived.Test.YtgponahmkjohiaaGreatDoorZPmD
import Derived.Test.YtgponahmkjohiaaGreatDoorZMcK
import Derived.Test.YtgponahmkjohiaaGreatDoorZPmE
import Derived.Test.YtgponahmkjohiaaGreatDoorZPmF
import Derived.Test.YtgponahmkjohiaaGreatDoorZPmG
import Derived.Test.YtgponahmkjohiaaGreatDoorZPmH
import Derived.Test.YtgponahmkjohiaaGreatDoorZPmI
import Derived.Test.YtgponahmkjohiaaGreatDoorZPmJ
import Derived.Test.YtgponahmkjohiaaGreatDoorZRepM
import Derived.Test.YtgponahmkjohiaaGreatDoorZNI
import Derived.Test.YtgponahmkjohiaaGreatDoorZPmK
import Derived.Test.YtgponahmkjohiaaGreatDoorZMsF
import Derived.Test.YtgponahmkjohiaaGreatDoorZMcH
import Derived.Test.YtgponahmkjohiaaGreatDoorZMcI
import Derived.Test.YtgponahmkjohiaaGreatDoorZVirL
import Derived.Test.YtgponahmkjohiaaGreatDoorZMcJ
import Derived.Test.YtgponahmkjohiaaGreatDoorZNG
import Derived.Test.YtgponahmkjohiaaGreatDoorZMcL
import Derived.Test.YtgponahmkjohiaaGreatDoorZMcN
import Derived.Test.YtgponahmkjohiaaGreatDoorZNH
import Derived.Test.YtgponahmkjohiaaGreatDoorZDr7
import Derived.Test.YtgponahmkjohiaaGreatDoorRows
import Derived.Test.YtgponahmkjohiaaGreatDoorZPmL
import Derived.Test.YtgponahmkjohiaaGreatDoorZDrA
import Derived.Test.YtgponahmkjohiaaGreatDoorZFrameC
import Derived.Test.YtgponahmkjohiaaGreatDoorZFrameV
namespace Go.Proofs.YtgponahmkjohiaaGreatDoor
section
open Go.RowKit
set_option linter.unusedVariables false
/-- Places at which something is so. -/
def placesI (P : Nat → Bool) : Nat → List Int
  | 0 => []
  | n + 1 => if P n then placesI P n ++ [(n : Int)] else placesI P n
theorem places_no {P : Nat → Bool} {n : Nat} (h : P n = false) : placesI P (n + 1) = placesI P n := by
  show (if P n then _ else _) = _
  rw [h]; rfl
theorem places_yes {P : Nat → Bool} {n : Nat} (h : P n = true) : placesI P (n + 1) = placesI P n ++ [(n : Int)] := by
  show (if P n then _ else _) = _
  rw [h]; rfl
end
section
open Go.RowKit
set_option linter.unusedVariables false
/-- The places of jobs that need more than their low need. -/
def highI (ts : List Tk) : Nat → List Jb → List Int
  | _, [] => []
  | k, j :: js => (if (tkOf ts j.ta).lo < j.ne then [(k : Int)] else []) ++ highI ts (k + 1) js
def highV (ts : List Tk) (js : List Jb) : List Int := if jobsB ts js then highI ts 0 js else []
theorem high_app (ts : List Tk) : ∀ (xs ys : List Jb) (k : Nat), highI ts k (xs ++ ys) = highI ts k xs ++ highI ts (k + xs.length) ys
  | [], ys, k => by simp [highI]
  | j :: xs, ys, k => by
    rw [List.cons_append, highI, highI, high_app ts xs ys (k + 1), List.append_assoc]
    congr 3
    simp; omega
theorem high_take {ts : List Tk} {js : List Jb} {q : Nat} {j : Jb} (h : js[q]? = some j) : highI ts 0 (js.take (q + 1)) = highI ts 0 (js.take q) ++ if (tkOf ts j.ta).lo < j.ne then [(q : Int)] else [] := by
  have hq := (List.getElem?_eq_some_iff.1 h).1
  rw [List.take_add_one, h, Option.toList_some, high_app]
  congr 1
  rw [List.length_take, Nat.min_eq_left (Nat.le_of_lt hq), Nat.zero_add]
  simp [highI]
end
section
open Go.RowKit
set_option linter.unusedVariables false
section
variable {ts : List Tk} {js : List Jb} {p : Po}
theorem g_step (n k : Nat) : gN ts js p n k ≤ gN ts js p (n + 1) k ∧ gN ts js p (n + 1) k ≤ gN ts js p n k + 1 := by
  show gN ts js p n k ≤ (if chN ts js p n = some k then gN ts js p n k + 1 else gN ts js p n k) ∧ (if chN ts js p n = some k then gN ts js p n k + 1 else gN ts js p n k) ≤ _
  split <;> omega
end
end
section
open Go.RowKit
set_option linter.unusedVariables false
theorem sumZ_nonneg {f : Nat → Int} {n : Nat} (h : ∀ k, k < n → 0 ≤ f k) : 0 ≤ sumZ f n := by
  have := sumZ_le (f := fun _ => 0) (g := f) h
  rwa [sumZ_zero (fun _ _ => rfl)] at this
/-- How many have a property. -/
def cntZ (P : Nat → Bool) (n : Nat) : Int := sumZ (fun k => if P k then 1 else 0) n
theorem cntZ_succ (P : Nat → Bool) (n : Nat) : cntZ P (n + 1) = cntZ P n + if P n then 1 else 0 := rfl
theorem cntZ_nonneg (P : Nat → Bool) (n : Nat) : 0 ≤ cntZ P n := sumZ_nonneg fun k _ => by split <;> omega
end
section
open Go.RowKit
set_option linter.unusedVariables false
section
variable {ts : List Tk} {js : List Jb} {p : Po}
theorem set_jobs (hv : jobsB ts js = true) : setB ts = true := by unfold jobsB at hv; simp only [Bool.and_eq_true] at hv; exact hv.1
end
end
section
open Go.RowKit
set_option linter.unusedVariables false
theorem places_cnt (P : Nat → Bool) : ∀ n : Nat, ((placesI P n).length : Int) = cntZ P n
  | 0 => rfl
  | n + 1 => by
    rw [cntZ_succ, ← places_cnt P n]
    show (((if P n = true then placesI P n ++ [(n : Int)] else placesI P n).length : Nat) : Int) = _
    by_cases h : P n = true
    · simp [h]
    · simp [h]
section
variable {ts : List Tk} {js : List Jb} {p : Po}
/-- There are no more switches than jobs that need more. -/
theorem sw_count (hv : jobsB ts js = true) : ∀ n, ((runM ts js p n).sw.length : Int) ≤ cntZ (fun k => decide ((tkJ ts js k).lo < (jobOf js k).ne) && decide ((tkJ ts js k).lo ≤ gN ts js p n k)) js.length
  | 0 => cntZ_nonneg _ _
  | n + 1 => by
    have ih := sw_count hv n
    rw [sw_next hv, List.length_append]
    have hmono : cntZ (fun k => decide ((tkJ ts js k).lo < (jobOf js k).ne) && decide ((tkJ ts js k).lo ≤ gN ts js p n k)) js.length ≤ cntZ (fun k => decide ((tkJ ts js k).lo < (jobOf js k).ne) && decide ((tkJ ts js k).lo ≤ gN ts js p (n + 1) k)) js.length := by
      refine sumZ_le fun k _ => ?_
      have := (g_step (ts := ts) (js := js) (p := p) n k).1
      try dsimp only
      by_cases h : (tkJ ts js k).lo < (jobOf js k).ne ∧ (tkJ ts js k).lo ≤ gN ts js p n k
      · rw [if_pos (by simp [h]), if_pos (by simp [h]; omega)]; exact Int.le_refl _
      · rw [if_neg (by simpa using h)]; split <;> omega
    by_cases hs : swN ts js p n = true
    · rw [if_pos hs]
      obtain ⟨hlow, c, h1, h2, h3, h4⟩ := sw_of hs
      have ho := (ch_some hv h1).1
      have hl := (opn_len hv ho).1
      have hg := (opn_g hv ho).2.2.2 hlow
      have hle := g_le (p := p) hv hl (n + 1)
      have hb : cntZ (fun k => decide ((tkJ ts js k).lo < (jobOf js k).ne) && decide ((tkJ ts js k).lo ≤ gN ts js p n k)) js.length + 1 ≤ cntZ (fun k => decide ((tkJ ts js k).lo < (jobOf js k).ne) && decide ((tkJ ts js k).lo ≤ gN ts js p (n + 1) k)) js.length := by
        have e : (1 : Int) = sumZ (fun k => if k = c then 1 else 0) js.length := by
          rw [sumZ_point (f := fun k => if k = c then (1 : Int) else 0) hl (fun k _ hk => if_neg hk)]; simp
        rw [e]
        unfold cntZ
        rw [← sumZ_add]
        refine sumZ_le fun k _ => ?_
        have := (g_step (ts := ts) (js := js) (p := p) n k).1
        try dsimp only
        by_cases hk : k = c
        · subst hk
          rw [if_neg (by simp; omega), if_pos rfl, if_pos (by simp; omega)]
          omega
        · rw [if_neg hk]
          by_cases h : (tkJ ts js k).lo < (jobOf js k).ne ∧ (tkJ ts js k).lo ≤ gN ts js p n k
          · rw [if_pos (by simp [h]), if_pos (by simp [h]; omega)]; omega
          · rw [if_neg (by simpa using h)]; split <;> omega
      simp
      omega
    · rw [if_neg hs]
      simp
      omega
end
end
end Go.Proofs.YtgponahmkjohiaaGreatDoor

namespace Go.Proofs.YtgponahmkjohiaaGreatDoor
section
open Go.RowKit
set_option linter.unusedVariables false
def dropP (en : List Int) (q : Nat) : Bool := en.getD q 0 == -2
end
end Go.Proofs.YtgponahmkjohiaaGreatDoor

namespace Go.Proofs.YtgponahmkjohiaaGreatDoor
open Go.RowKit
set_option linter.unusedVariables false
def needsB (ts : List Tk) (js : List Jb) (q : Nat) : Bool := decide ((tkOf ts (js.getD q ⟨0, 0, 0⟩).ta).lo < (js.getD q ⟨0, 0, 0⟩).ne)
theorem high_places (ts : List Tk) (js : List Jb) : ∀ q : Nat, q ≤ js.length → highI ts 0 (js.take q) = placesI (needsB ts js) q
  | 0, _ => rfl
  | q + 1, h => by
    have hg : js[q]? = some (js[q]'(by omega)) := List.getElem?_eq_getElem (by omega)
    have hd : js.getD q ⟨0, 0, 0⟩ = js[q]'(by omega) := by simp [List.getD, hg]
    rw [high_take hg, high_places ts js q (by omega)]
    by_cases e : needsB ts js q = true
    · rw [places_yes e, if_pos]
      unfold needsB at e
      rw [hd] at e
      simpa using e
    · rw [places_no (by simpa using e), if_neg, List.append_nil]
      intro h2
      refine e ?_
      unfold needsB
      rw [hd]
      simpa using h2
end Go.Proofs.YtgponahmkjohiaaGreatDoor

namespace Go.Proofs.YtgponahmkjohiaaGreatDoor
open Go.RowKit
set_option linter.unusedVariables false
section
variable {ts : List Tk} {js : List Jb} {p : Po}
theorem places_nil {P : Nat → Bool} : ∀ {n : Nat}, (∀ k, k < n → P k = false) → placesI P n = []
  | 0, _ => rfl
  | n + 1, h => by
    unfold placesI
    rw [h n (by omega), if_neg (by decide)]
    exact places_nil fun k hk => h k (by omega)
end
end Go.Proofs.YtgponahmkjohiaaGreatDoor

namespace Go.Proofs.YtgponahmkjohiaaGreatDoor
open Go.RowKit
set_option linter.unusedVariables false
section
variable {ts : List Tk} {js : List Jb} {p : Po}
theorem high_is (hv : jobsB ts js = true) : highV ts js = placesI (needsB ts js) js.length := by
  have h := high_places ts js js.length (Nat.le_refl _)
  rw [List.take_of_length_le (Nat.le_refl _)] at h
  unfold highV
  rw [hv, if_pos rfl, h]
theorem needs_is (k : Nat) : needsB ts js k = decide ((tkJ ts js k).lo < (jobOf js k).ne) := rfl
theorem high_run (hv : jobsB ts js = true) (n : Nat) : (runM ts js p n).sw.length ≤ (highV ts js).length := by
  have h1 := sw_count (p := p) hv n
  have h2 : cntZ (fun k => decide ((tkJ ts js k).lo < (jobOf js k).ne) && decide ((tkJ ts js k).lo ≤ gN ts js p n k)) js.length ≤ cntZ (needsB ts js) js.length := by
    refine sumZ_le fun k _ => ?_
    try dsimp only
    rw [needs_is]
    by_cases h : (tkJ ts js k).lo < (jobOf js k).ne
    · by_cases h4 : (tkJ ts js k).lo ≤ gN ts js p n k <;> simp [h, h4]
    · simp [h]
  have h3 := places_cnt (needsB ts js) js.length
  rw [high_is hv]
  omega
theorem low_run (hv : jobsB ts js = true) (h : highV ts js = []) (n : Nat) : (runM ts js p n).sw = [] ∧ (runM ts js p n).hi = false ∧ ∀ m, placesI (dropP (runM ts js p n).en) m = [] := by
  have hsw : (runM ts js p n).sw = [] := by
    have := high_run (p := p) hv n
    rw [h] at this
    exact List.eq_nil_of_length_eq_zero (Nat.le_zero.1 this)
  refine ⟨hsw, ?_, fun m => places_nil fun k _ => ?_⟩
  · cases hh : (runM ts js p n).hi
    · rfl
    · exact absurd hsw (hi_sw hv n hh)
  · unfold dropP
    rcases Nat.lt_or_ge k js.length with hk | hk
    · rcases en_val hv (en_get (p := p) (n := n) hv hk) with e | ⟨e, _, e2⟩ | ⟨_, e, _⟩
      · rw [e]; rfl
      · exact absurd hsw e2
      · have := job_ok hv hk
        rw [beq_eq_false_iff_ne]; omega
    · have : (runM ts js p n).en[k]? = none := List.getElem?_eq_none (by rw [en_len hv]; exact hk)
      simp [List.getD, this]
end
end Go.Proofs.YtgponahmkjohiaaGreatDoor

namespace Go.Proofs.YtgponahmkjohiaaGreatDoor
open Go.RowKit
set_option linter.unusedVariables false
theorem no_jobs {ts : List Tk} (h : setB ts = true) : jobsB ts [] = true := by
  unfold jobsB
  rw [h]
  simp [pairB]
theorem no_run {ts : List Tk} {p : Po} (hv : jobsB ts [] = true) (n : Nat) : (runM ts [] p n).en = [] ∧ cntT (-1) (runM ts [] p n).tr = n ∧ (runM ts [] p n).sw = [] ∧ (runM ts [] p n).hi = false := by
  have hh : highV ts [] = [] := by rw [high_is hv]; rfl
  obtain ⟨h1, h2, _⟩ := low_run (p := p) hv hh n
  have h3 := tr_sum (p := p) hv n
  have h4 : sumZ (fun i => cntT (i : Int) (runM ts [] p n).tr) ts.length = 0 := sumZ_zero fun k _ => by
    have a := ran_need (p := p) hv k n
    have b := (cntT_bound (k : Int) (runM ts [] p n).tr).1
    have c : sumJ (k : Int) [] = 0 := rfl
    omega
  exact ⟨List.eq_nil_of_length_eq_zero (en_len hv n), by omega, h1, h2⟩
set_option maxRecDepth 100000 in
set_option maxHeartbeats 8000000 in
theorem fnRunNoJobs_walk (w : World) (A : Option Addr) (n c : Nat) (f : Nat → Int) (h : Code w w.heap.size A n c f) (e0 : Addr) (he : EG w e0) :
    Calls Tryz.prog 14 #[.slice A n c] w fun e w' => e = .returned (.bool true) ∧ Below w.heap.size w w' := by
  have H := Lib.hid h
  have HE := Lib.hid he
  have hle := h.le
  have hmax := h.max
  unfold maxLen at hmax
  clear h he
  by_cases hn : 1048576 < n
  · go_enter Tryz.func14, Tryz.ntmps14
    go_wp2
    go_ret
    exact ⟨rfl, Below.refl _ _⟩
  go_enter Tryz.func14, Tryz.ntmps14
  go_wp2_with fail
  refine (dDrawRun_any _ A n c f H.out).mono ?_
  rintro e w1 ⟨A1, c1, ts, A2, c2, js, pol, tk, rfl, htl, hjl, p0, p1, k0, k1, ho, hoj, hb⟩
  have HB1 := Lib.hid hb
  have HO1 := Lib.hid ho
  have HOJ1 := Lib.hid hoj
  have HT1 := Lib.hid ho.reads.2
  have HJ1 := Lib.hid hoj.reads.2
  have hct := own_le ho
  have hs1 := hb.size
  clear hb ho hoj H
  obtain ⟨s, hs⟩ : ∃ s, runR ts js pol tk = s := ⟨_, rfl⟩
  obtain ⟨b, hb⟩ : ∃ b, okR ts js pol tk = b := ⟨_, rfl⟩
  have HLN : Hid (s.en.length ≤ 61 ∧ s.tr.length ≤ 200 ∧ s.sw.length ≤ 200) := Lib.hid (by rw [← hs]; exact runR_len10 ts js pol tk hjl)
  have HRJ := Lib.hid (iRunJobs_is w1 A1 ts.length c1 ts HT1.out (by omega) A2 js.length c2 js HJ1.out pol tk e0 (HE.out.below HB1.out))
  rw [hs, hb] at HRJ
  have HS := Lib.hid hs
  have HOK := Lib.hid hb
  clear hs hb
  go_wp2_with fail
  refine HRJ.out.mono ?_
  clear HRJ
  obtain ⟨en, tr, sw, hi, wkx, nxx⟩ := s
  rintro e w2 ⟨B1, d1, B2, d2, B3, d3, rfl, o1, o2, o3, _, _, _, hb⟩
  dsimp only at o1 o2 o3 HLN ⊢
  have HB2 := Lib.hid hb
  have hs2 := hb.size
  have HE2 := Lib.hid o1
  have HTR2 := Lib.hid o2
  have HSW2 := Lib.hid o3
  clear hb o1 o2 o3
  obtain ⟨wz2, hwz2⟩ : ∃ wz, w2.alloc (.cells #[.slice none 0 0, .slice none 0 0, .slice none 0 0, .bool false] 29) = wz := ⟨_, rfl⟩
  have hz2 : Blk wz2 w2.heap.size 29 #[.slice none 0 0, .slice none 0 0, .slice none 0 0, .bool false] := hwz2 ▸ Blk.new w2 _ _
  have bz2 : Below w2.heap.size w2 wz2 := hwz2 ▸ bl_alloc (Below.refl _ _) _
  obtain ⟨za2, zb2, zc2, zd2⟩ := Blk.quad hz2
  have zf2 := hz2.frozen
  obtain ⟨w3, hwn2⟩ : ∃ wn, (((wz2.setCell ⟨w2.heap.size, 0, none⟩ (.slice B1 en.length d1)).setCell ⟨w2.heap.size, 1, none⟩ (.slice B2 tr.length d2)).setCell ⟨w2.heap.size, 2, none⟩ (.slice B3 sw.length d3)).setCell ⟨w2.heap.size, 3, none⟩ (.bool hi) = wn := ⟨_, rfl⟩
  have hX2 : Blk w3 w2.heap.size 29 #[(.slice B1 en.length d1), (.slice B2 tr.length d2), (.slice B3 sw.length d3), (.bool hi)] := by
    rw [← hwn2]
    have h := (((hz2.set_ 0 ((.slice B1 en.length d1))).set_ 1 ((.slice B2 tr.length d2))).set_ 2 ((.slice B3 sw.length d3))).set_ 3 ((.bool hi))
    simpa using h
  have hY2 : Below w2.heap.size w2 w3 := by
    rw [← hwn2]
    exact (((bl_set bz2 (by dsimp only; omega) _).setCell (by dsimp only; omega) _).setCell (by dsimp only; omega) _).setCell (by dsimp only; omega) _
  have HX3 := Lib.hid hX2
  have HY3 := Lib.hid hY2
  have hs3 := hY2.size
  have HT3 := Lib.hid ((HT1.out.below (bl_trans HB2.out HY3.out)).more (by omega : w1.heap.size ≤ w3.heap.size))
  have HJ3 := Lib.hid ((HJ1.out.below (bl_trans HB2.out HY3.out)).more (by omega : w1.heap.size ≤ w3.heap.size))
  have HSR := Lib.hid (sRunJobs_is w3 A1 ts.length c1 ts HT3.out (by omega) A2 js.length c2 js HJ3.out pol tk)
  rw [HS.out, HOK.out] at HSR
  clear hX2 hY2 hz2 bz2
  go_wp2_with fail
  refine HSR.out.mono ?_
  clear HSR za2 zb2 zc2 zd2 zf2 hwz2 hwn2
  rintro e w4 ⟨C1, f1, C2, f2, C3, f3, rfl, o1, o2, o3, _, _, _, hb⟩
  dsimp only at o1 o2 o3 ⊢
  have HB4 := Lib.hid hb
  have hs4 := hb.size
  have HE4 := Lib.hid o1
  have HTR4 := Lib.hid o2
  have HSW4 := Lib.hid o3
  clear hb o1 o2 o3
  obtain ⟨wz4, hwz4⟩ : ∃ wz, w4.alloc (.cells #[.slice none 0 0, .slice none 0 0, .slice none 0 0, .bool false] 29) = wz := ⟨_, rfl⟩
  have hz4 : Blk wz4 w4.heap.size 29 #[.slice none 0 0, .slice none 0 0, .slice none 0 0, .bool false] := hwz4 ▸ Blk.new w4 _ _
  have bz4 : Below w4.heap.size w4 wz4 := hwz4 ▸ bl_alloc (Below.refl _ _) _
  obtain ⟨za4, zb4, zc4, zd4⟩ := Blk.quad hz4
  have zf4 := hz4.frozen
  obtain ⟨w5, hwn4⟩ : ∃ wn, (((wz4.setCell ⟨w4.heap.size, 0, none⟩ (.slice C1 en.length f1)).setCell ⟨w4.heap.size, 1, none⟩ (.slice C2 tr.length f2)).setCell ⟨w4.heap.size, 2, none⟩ (.slice C3 sw.length f3)).setCell ⟨w4.heap.size, 3, none⟩ (.bool hi) = wn := ⟨_, rfl⟩
  have hX4 : Blk w5 w4.heap.size 29 #[(.slice C1 en.length f1), (.slice C2 tr.length f2), (.slice C3 sw.length f3), (.bool hi)] := by
    rw [← hwn4]
    have h := (((hz4.set_ 0 ((.slice C1 en.length f1))).set_ 1 ((.slice C2 tr.length f2))).set_ 2 ((.slice C3 sw.length f3))).set_ 3 ((.bool hi))
    simpa using h
  have hY4 : Below w4.heap.size w4 w5 := by
    rw [← hwn4]
    exact (((bl_set bz4 (by dsimp only; omega) _).setCell (by dsimp only; omega) _).setCell (by dsimp only; omega) _).setCell (by dsimp only; omega) _
  have HX5 := Lib.hid hX4
  have HY5 := Lib.hid hY4
  have hs5 := hY4.size
  have HB25 : Hid (Below w2.heap.size w2 w5) := Lib.hid (bl_trans HY3.out (bl_trans HB4.out HY5.out))
  have HB15 : Hid (Below w1.heap.size w1 w5) := Lib.hid (bl_trans HB2.out HB25.out)
  have HB05 : Hid (Below w.heap.size w w5) := Lib.hid (bl_trans HB1.out HB15.out)
  have HX35 := Lib.hid (HX3.out.below (bl_trans HB4.out HY5.out) HX3.out.lt)
  have HE5 := Lib.hid (HE2.out.below HB25.out)
  have HTR5 := Lib.hid (HTR2.out.below HB25.out)
  have HSW5 := Lib.hid (HSW2.out.below HB25.out)
  have HRN5 : Hid (RnAt w5 B1 en.length B2 tr.length B3 sw.length en tr sw) := Lib.hid ⟨HE5.out.reads, HTR5.out.reads, HSW5.out.reads⟩
  have HRM5 : Hid (RnAt w5 C1 en.length C2 tr.length C3 sw.length en tr sw) := Lib.hid ⟨(HE4.out.below HY5.out).reads, (HTR4.out.below HY5.out).reads, (HSW4.out.below HY5.out).reads⟩
  have HT5 := Lib.hid ((HT1.out.below HB15.out).more (by omega : w1.heap.size ≤ w5.heap.size))
  have HJ5 := Lib.hid ((HJ1.out.below HB15.out).more (by omega : w1.heap.size ≤ w5.heap.size))
  have HEG5 := Lib.hid (HE.out.below HB05.out)
  have HSM := Lib.hid (iSame_is w5 B1 en.length d1 B2 tr.length d2 B3 sw.length d3 hi en tr sw C1 en.length f1 C2 tr.length f2 C3 sw.length f3 hi en tr sw HRN5.out HRM5.out (by have := HLN.out; omega) (by have := HLN.out; omega) (by have := HLN.out; omega) (by have := HLN.out; omega) (by have := HLN.out; omega) (by have := HLN.out; omega) true (sameR_self _ _ _ _))
  obtain ⟨x0, x1, x2, x3⟩ := Blk.quad HX35.out
  obtain ⟨y0, y1, y2, y3⟩ := Blk.quad HX5.out
  clear hX4 hY4 hz4 bz4 HT3 HJ3 HX3 HTR4 HE4 HSW4
  cases b
  · go_wp2_with fail
    refine HSM.out.mono ?_
    rintro e w6 ⟨rfl, hb6⟩
    have HB6 := Lib.hid hb6
    have HSM2 := Lib.hid (iSame_is w6 B1 en.length d1 B2 tr.length d2 B3 sw.length d3 hi en tr sw C1 en.length f1 C2 tr.length f2 C3 sw.length f3 hi en tr sw (HRN5.out.below hb6) (HRM5.out.below hb6) (by have := HLN.out; omega) (by have := HLN.out; omega) (by have := HLN.out; omega) (by have := HLN.out; omega) (by have := HLN.out; omega) (by have := HLN.out; omega) true (sameR_self _ _ _ _))
    obtain ⟨u0, u1, u2, u3⟩ := Blk.quad (HX35.out.below hb6 HX35.out.lt)
    obtain ⟨v0, v1, v2, v3⟩ := Blk.quad (HX5.out.below hb6 HX5.out.lt)
    clear hb6 x0 x1 x2 x3 y0 y1 y2 y3 hwz4 hwn4 za4 zb4 zc4 zd4 zf4
    go_wp2_with fail
    refine HSM2.out.mono ?_
    rintro e w7 ⟨rfl, hb7⟩
    have HB7 := Lib.hid (bl_trans HB05.out (bl_trans HB6.out hb7))
    clear hb7 u0 u1 u2 u3 v0 v1 v2 v3
    go_wp2
    go_ret
    exact ⟨rfl, HB7.out⟩
  have hv : jobsB ts js = true := (okR_iff.1 HOK.out).1
  have htk : 0 ≤ tk ∧ tk ≤ 200 := (okR_iff.1 HOK.out).2.2
  obtain ⟨T, hT⟩ : ∃ T : Nat, tk = (T : Int) := ⟨tk.toNat, by omega⟩
  subst hT
  have hT2 : T ≤ 200 := by omega
  have HRUN : Hid (runM ts js (poOf ts pol) T = ⟨en, tr, sw, hi, wkx, nxx⟩) := Lib.hid (by rw [← HS.out, runR_ok HOK.out]; rfl)
  have HV := Lib.hid hv
  have hj60 : js.length ≤ 60 := (wrsB_iff.1 (jobs_wrs hv)).1
  clear hv htk
  go_wp2_with fail
  refine HSM.out.mono ?_
  clear HSM hwz4 hwn4 za4 zb4 zc4 zd4 zf4 x0 x1 x2 x3 y0 y1 y2 y3 HRM5
  rintro e w6 ⟨rfl, hb6⟩
  have HB6 := Lib.hid hb6
  have HB06 : Hid (Below w.heap.size w w6) := Lib.hid (bl_trans HB05.out hb6)
  have HX6 := Lib.hid (HX35.out.below hb6 HX35.out.lt)
  have HE6 := Lib.hid (HE5.out.below hb6)
  have HTR6 := Lib.hid (HTR5.out.below hb6)
  have HSW6 := Lib.hid (HSW5.out.below hb6)
  have HT6 := Lib.hid ((HT5.out.below hb6).more hb6.size)
  have HJ6 := Lib.hid ((HJ5.out.below hb6).more hb6.size)
  have HEG6 := Lib.hid (HEG5.out.below hb6)
  have hs6 := hb6.size
  clear hb6 HX35 HE5 HTR5 HSW5 HT5 HJ5 HEG5 HB6 HX5 HB25 HB15 HB4 HY5 HRN5 HE2 HTR2 HSW2 HT1 HJ1 HO1 HOJ1 HB1 HB2 HY3 HE
  have HD6 := Lib.hid (Below.refl w6.heap.size w6)
  have hv : jobsB ts [] = true := no_jobs (set_jobs HV.out)
  have hok8 : okR ts [] pol (T : Int) = true := okR_iff.2 ⟨hv, (okR_iff.1 HOK.out).2.1, by omega, by omega⟩
  have HNO := Lib.hid (no_run (p := poOf ts pol) hv T)
  clear hv
  obtain ⟨w7, hw7⟩ : ∃ wn, w6.alloc (.cells #[] 40) = wn := ⟨_, rfl⟩
  have HD7 : Hid (Below w6.heap.size w6 w7) := Lib.hid (by rw [← hw7]; exact bl_alloc (Below.refl _ _) _)
  have HTK7 := Lib.hid ((HT6.out.below HD7.out).more HD7.out.size)
  have HEG7 := Lib.hid (HEG6.out.below HD7.out)
  have HR8 := Lib.hid (iRunJobs_is w7 A1 ts.length c1 ts HTK7.out (by omega) (some ⟨w6.heap.size, 0, none⟩) 0 0 [] (Jbs.nil w7 _ _) pol (T : Nat) e0 HEG7.out)
  rw [hok8, runR_ok hok8, Int.toNat_natCast] at HR8
  obtain ⟨s8, hs8⟩ : ∃ s, runM ts [] (poOf ts pol) T = s := ⟨_, rfl⟩
  rw [hs8] at HR8
  have HRUN8 := Lib.hid hs8
  clear hs8 hok8
  go_wp2_with fail
  clear hw7
  refine HR8.out.mono ?_
  clear HR8
  obtain ⟨en8, tr8, sw8, hi8, wk8, nx8⟩ := s8
  rintro e v8 ⟨D1, g1, D2, g2, D3, g3, rfl, o1, o2, o3, _, _, _, hb⟩
  dsimp only at o1 o2 o3 ⊢
  have HBr8 := Lib.hid hb
  have hz80 := hb.size
  have HEr8 := Lib.hid o1
  have HTr8 := Lib.hid o2
  have HSr8 := Lib.hid o3
  clear hb o1 o2 o3
  obtain ⟨wz8, hwz8⟩ : ∃ wz, v8.alloc (.cells #[.slice none 0 0, .slice none 0 0, .slice none 0 0, .bool false] 29) = wz := ⟨_, rfl⟩
  have hz8 : Blk wz8 v8.heap.size 29 #[.slice none 0 0, .slice none 0 0, .slice none 0 0, .bool false] := hwz8 ▸ Blk.new v8 _ _
  have bz8 : Below v8.heap.size v8 wz8 := hwz8 ▸ bl_alloc (Below.refl _ _) _
  obtain ⟨za8, zb8, zc8, zd8⟩ := Blk.quad hz8
  have zf8 := hz8.frozen
  obtain ⟨u8, hwn8⟩ : ∃ wn, (((wz8.setCell ⟨v8.heap.size, 0, none⟩ (.slice D1 en8.length g1)).setCell ⟨v8.heap.size, 1, none⟩ (.slice D2 tr8.length g2)).setCell ⟨v8.heap.size, 2, none⟩ (.slice D3 sw8.length g3)).setCell ⟨v8.heap.size, 3, none⟩ (.bool hi8) = wn := ⟨_, rfl⟩
  have hX8 : Blk u8 v8.heap.size 29 #[(.slice D1 en8.length g1), (.slice D2 tr8.length g2), (.slice D3 sw8.length g3), (.bool hi8)] := by
    rw [← hwn8]
    have h := (((hz8.set_ 0 ((.slice D1 en8.length g1))).set_ 1 ((.slice D2 tr8.length g2))).set_ 2 ((.slice D3 sw8.length g3))).set_ 3 ((.bool hi8))
    simpa using h
  have hY8 : Below v8.heap.size v8 u8 := by
    rw [← hwn8]
    exact (((bl_set bz8 (by dsimp only; omega) _).setCell (by dsimp only; omega) _).setCell (by dsimp only; omega) _).setCell (by dsimp only; omega) _
  have HX8 := Lib.hid hX8
  have HD8 : Hid (Below w7.heap.size w7 u8) := Lib.hid (bl_trans HBr8.out hY8)
  have HE8 := Lib.hid (HEr8.out.below hY8)
  have HTR8 := Lib.hid (HTr8.out.below hY8)
  have HSW8 := Lib.hid (HSr8.out.below hY8)
  clear hX8 hY8 hz8 bz8 HEr8 HTr8 HSr8 HBr8
  obtain ⟨y0, y1, y2, y3⟩ := Blk.quad HX8.out
  go_wp2_with fail
  rw [HRUN8.out] at HNO
  dsimp only at HNO
  obtain ⟨n1, n2, n3, rfl⟩ := HNO.out
  have hTR8 : tr8.length ≤ 200 := by
    have := tr_len (p := poOf ts pol) (no_jobs (set_jobs HV.out)) T
    rw [HRUN8.out] at this
    dsimp only at this
    omega
  have e1 : ((en8.length : Int) == 0) = true := by rw [n1]; rfl
  have e2 : ((sw8.length : Int) == 0) = true := by rw [n3]; rfl
  have HN2 := Lib.hid n2
  clear n1 n2 n3 HNO
  refine (iIdle_is _ D1 _ g1 D2 _ g2 D3 _ g3 false tr8 HTR8.out.reads (by omega)).mono ?_
  rintro e w9 ⟨rfl, hb⟩
  have HB9 := Lib.hid (bl_trans HB06.out (bl_trans HD7.out (bl_trans HD8.out hb)))
  have HX9 := Lib.hid (HX8.out.below hb HX8.out.lt)
  clear hb y0 y1 y2 y3 hwz8 hwn8 za8 zb8 zc8 zd8 zf8
  obtain ⟨y0, y1, y2, y3⟩ := Blk.quad HX9.out
  rw [ranZ_cnt, HN2.out]
  go_wp2
  go_ret
  exact ⟨rfl, HB9.out⟩
end Go.Proofs.YtgponahmkjohiaaGreatDoor
