/- The walks of the laws FnOrderSelf and FnOrderBack. -/
import Derived.Test.YtgpmghnbibjbnaaLwPm
import Derived.Test.YtgpmghnbibjbnaaLwX4z
import Derived.Test.YtgpmghnbibjbnaaMB
import Derived.Test.YtgpmghnbibjbnaaMC
import Derived.Test.YtgpmghnbibjbnaaMA
namespace Go.Proofs.Ytgpmghnbibjbnaa
open Go.RowKit
set_option linter.unusedVariables false

theorem self_ord {ts : List Tk} (hs : setB ts = true) : (setB ts && ordB (toZ (List.range ts.length)) ts.length) = true := by rw [hs, ord_perm (List.Perm.refl _)]; rfl
theorem self_put (ts : List Tk) : putN ts ((toZ (List.range ts.length)).map Int.toNat) = ts := by rw [toZ_nat, put_range]
/-- The order that undoes an order, as far as it has been made. -/
def invZ (o : List Nat) : Nat → List Int
  | 0 => List.replicate o.length 0
  | k + 1 => (invZ o k).set (o.getD k 0) (k : Int)
theorem invZ_len (o : List Nat) (k : Nat) : (invZ o k).length = o.length := by
  induction k with
  | zero => simp [invZ]
  | succ k ih => unfold invZ; rw [List.length_set, ih]
def backB (n : Nat) (o : List Nat) : Bool := ordB (invZ o n) n && decide (((invZ o n).map Int.toNat).map (fun i => o.getD i 0) = List.range n)
set_option maxRecDepth 100000 in
theorem all_back : ∀ {n : Nat}, n ≤ 5 → ∀ {o : List Nat}, o ∈ allOf n → backB n o = true := by
  have h : ∀ n, n < 6 → (allOf n).all (fun o => backB n o) = true := by decide +kernel
  intro n hn o ho
  exact List.all_eq_true.1 (h n (by omega)) o ho
theorem back_good {ts : List Tk} {o : List Nat} (hs : setB ts = true) (h : o.Perm (List.range ts.length)) :
    (setB (putN ts o) && ordB (invZ o o.length) (putN ts o).length) = true ∧ putN (putN ts o) ((invZ o o.length).map Int.toNat) = ts := by
  have hl : o.length = ts.length := by have := h.length_eq; simpa using this
  have hb := all_back (setB_len hs) (mem_allOf h)
  unfold backB at hb
  rw [Bool.and_eq_true, decide_eq_true_iff] at hb
  refine ⟨?_, ?_⟩
  · rw [set_perm (put_all h), hs, put_len, hl]; exact hb.1
  · rw [hl]
    obtain ⟨q, hq⟩ : ∃ q, (invZ o ts.length).map Int.toNat = q := ⟨_, rfl⟩
    have h1 := hb.1
    have h2 := hb.2
    rw [hq] at h2 ⊢
    have hqi : ∀ i ∈ q, i < o.length := by
      rw [← hq]
      intro i hi
      obtain ⟨z, hz, rfl⟩ := List.mem_map.1 hi
      have := (ordB_iff.1 h1).2.1 z hz
      omega
    have e : putN (putN ts o) q = putN ts (q.map fun i => o.getD i 0) := by
      unfold putN
      rw [List.map_map]
      refine List.map_congr_left fun i hi => ?_
      have hio := hqi i hi
      simp only [Function.comp, List.getD_eq_getElem?_getD, List.getElem?_map, List.getElem?_eq_getElem hio, Option.map_some, Option.getD_some]
    rw [e, h2, put_range]
theorem below_len : ∀ (n : Nat) (l : List Nat), l.Nodup → (∀ i ∈ l, i < n) → l.length ≤ n
  | 0, l, _, h => by
    cases l with
    | nil => exact Nat.le_refl _
    | cons a l => exact absurd (h a (by simp)) (Nat.not_lt_zero _)
  | n + 1, l, hn, h => by
    by_cases hm : n ∈ l
    · have h1 := below_len n (l.erase n) (hn.erase n) (fun i hi => by
        have h2 := hn.mem_erase_iff.1 hi
        have := h i h2.2
        have := h2.1
        omega)
      rw [List.length_erase_of_mem hm] at h1
      omega
    · exact Nat.le_trans (below_len n l hn (fun i hi => by
        have := h i hi
        have : i ≠ n := by rintro rfl; exact hm hi
        omega)) (Nat.le_succ n)
theorem perm_range : ∀ (n : Nat) (l : List Nat), l.Nodup → (∀ i ∈ l, i < n) → l.length = n → l.Perm (List.range n)
  | 0, l, _, _, hl => by rw [List.eq_nil_of_length_eq_zero hl]; exact List.Perm.refl _
  | n + 1, l, hn, h, hl => by
    have hm : n ∈ l := by
      by_cases hm : n ∈ l
      · exact hm
      · have := below_len n l hn (fun i hi => by
          have := h i hi
          have : i ≠ n := by rintro rfl; exact hm hi
          omega)
        omega
    have h1 := perm_range n (l.erase n) (hn.erase n) (fun i hi => by
        have h2 := hn.mem_erase_iff.1 hi
        have := h i h2.2
        have := h2.1
        omega) (by rw [List.length_erase_of_mem hm]; omega)
    rw [List.range_succ]
    exact ((List.perm_cons_erase hm).trans (h1.cons n)).trans (List.perm_append_comm (l₁ := [n]) (l₂ := List.range n))
theorem nat_of_ord {zs : List Int} {n : Nat} (h : ordB zs n = true) : ∃ o, zs = toZ o ∧ o.Perm (List.range n) := by
  obtain ⟨o, h1, h2, h3, h4⟩ := ord_nat h
  exact ⟨o, h1, perm_range n o h4 h3 h2⟩

set_option maxRecDepth 100000 in
set_option maxHeartbeats 4000000 in
theorem fnOrderSelf_walk (w : World) (A : Option Addr) (n c : Nat) (f : Nat → Int) (h : Code w w.heap.size A n c f) :
    Calls Try.prog 8 #[.slice A n c] w fun e w' => e = .returned (.bool true) ∧ Below w.heap.size w w' := by
  have H := Lib.hid h
  have hle := h.le
  have hmax := h.max
  unfold maxLen at hmax
  clear h
  by_cases hn : 1048576 < n
  · go_enter Try.func8, Try.ntmps8
    go_wp2
    go_ret
    exact ⟨rfl, Below.refl _ _⟩
  go_enter Try.func8, Try.ntmps8
  go_wp2_with fail
  refine (dDrawPutOrder_any _ A n c f H.out).mono ?_
  rintro e w1 ⟨At, ct, ts, Az, cz, zs, rfl, hl, hzl, ho, hoz, hb⟩
  have HB1 := Lib.hid hb
  have HO := Lib.hid ho
  have HT := Lib.hid ho.reads.2
  have hct := own_le ho
  have hcz := hoz.le
  have HZ1 := Lib.hid hoz.reads
  have HOZ1 := Lib.hid hoz
  clear hb ho hoz H
  have HD1 := Lib.hid (Below.refl w1.heap.size w1)
  have hs1 := HB1.out.size
  obtain ⟨b, hv⟩ : ∃ b, (setB ts && ordB zs ts.length) = b := ⟨_, rfl⟩
  obtain ⟨xs, hxs⟩ : ∃ xs, xs = if b then putN ts (zs.map Int.toNat) else [] := ⟨_, rfl⟩
  have HV := Lib.hid hv
  have HXS : Hid (xs = if b = true then putN ts (zs.map Int.toNat) else []) := hxs
  have hxl : xs.length ≤ 7 := by
    rw [hxs]
    split
    · rw [put_len, List.length_map]; exact hzl
    · exact Nat.zero_le _
  clear hv hxs
  go_wp2_with fail
  refine (iPutOrder_is w1 At _ ct ts Az _ cz zs (tks_to HT.out HD1.out) (by omega) HZ1.out xs b HV.out HXS.out).mono ?_
  rintro e w2 ⟨Ax, cx, rfl, ho, hb⟩
  have hs2 := hb.size
  have HB2 := Lib.hid (show Below w.heap.size w w2 from bl_trans HB1.out hb)
  have HD2 := Lib.hid (show Below w1.heap.size w1 w2 from bl_trans HD1.out hb)
  have HZ2 := Lib.hid ((HZ1.out.below hb).more hb.size)
  have HX2 := Lib.hid (ho)
  clear hb ho
  go_wp2_with fail
  refine (sPutOrder_is w2 At _ ct ts Az _ cz zs (tks_to HT.out HD2.out) (by omega) HZ2.out xs b HV.out HXS.out).mono ?_
  rintro e w3 ⟨Aw, cw, rfl, ho, hb⟩
  have hs3 := hb.size
  have HB3 := Lib.hid (show Below w.heap.size w w3 from bl_trans HB2.out hb)
  have HD3 := Lib.hid (show Below w1.heap.size w1 w3 from bl_trans HD2.out hb)
  have HZ3 := Lib.hid ((HZ2.out.below hb).more hb.size)
  have HX3 := Lib.hid (HX2.out.below hb)
  have HW3 := Lib.hid (ho)
  clear hb ho
  go_wp2_with fail
  refine (dmTasks_any w3 Ax Aw _ cx cw xs HX3.out.reads.2 HW3.out.reads.2 (by omega)).mono ?_
  rintro e w4 ⟨rfl, hb⟩
  have hs4 := hb.size
  have HB4 := Lib.hid (show Below w.heap.size w w4 from bl_trans HB3.out hb)
  have HD4 := Lib.hid (show Below w1.heap.size w1 w4 from bl_trans HD3.out hb)
  have HZ4 := Lib.hid ((HZ3.out.below hb).more hb.size)
  have HX4 := Lib.hid (HX3.out.below hb)
  have HW4 := Lib.hid (HW3.out.below hb)
  clear hb
  cases b
  · go_wp2_with fail
    refine (dmTasks_any w4 Ax Aw _ cx cw xs HX4.out.reads.2 HW4.out.reads.2 (by omega)).mono ?_
    rintro e w5 ⟨rfl, hb⟩
    have hs5 := hb.size
    have HB5 := Lib.hid (show Below w.heap.size w w5 from bl_trans HB4.out hb)
    have HD5 := Lib.hid (show Below w1.heap.size w1 w5 from bl_trans HD4.out hb)
    have HZ5 := Lib.hid ((HZ4.out.below hb).more hb.size)
    have HX5 := Lib.hid (HX4.out.below hb)
    have HW5 := Lib.hid (HW4.out.below hb)
    clear hb
    go_wp2
    go_ret
    exact ⟨rfl, HB5.out⟩
  have hsb : setB ts = true := by
    have h := HV.out
    rw [Bool.and_eq_true] at h
    exact h.1
  have HSO := Lib.hid (self_ord hsb)
  have hl5 : ts.length ≤ 5 := setB_len hsb
  clear hsb
  obtain ⟨i0, hi, hz0, hz1, hz2⟩ := info_parts info_int
  go_wp2
  go_loopw [9, 10] (fun v i wr => ∃ j : Nat, j ≤ ts.length ∧ i = .int .i64 j ∧ OwnZ wr w4.heap.size v (toZ (List.range j)) ∧ Below w4.heap.size w4 wr) (fun _ i _ => ts.length - (intOf i).toNat)
  case atStart => exact ⟨0, Nat.zero_le _, rfl, OwnZ.empty _, bl_alloc (Below.refl _ _) _⟩
  case round =>
    obtain ⟨j, hj, rfl, ho, hb⟩ := hrel
    have HOs := Lib.hid ho
    have HR := Lib.hid hb
    have hszr : w4.heap.size ≤ wr.heap.size := hb.size
    clear ho hb
    by_cases hlt : j < ts.length
    · have hji : (j : Int) < (ts.length : Int) := by omega
      have HLK : Hid ((toZ (List.range j)).length = j) := by show _ = _; rw [toZ_len, List.length_range]
      obtain ⟨rj, hrj⟩ : ∃ rj, rj = toZ (List.range j) := ⟨_, rfl⟩
      have HSU : Hid (toZ (List.range (j + 1)) = rj ++ [(j : Int)]) := by show _ = _; rw [hrj]; exact toZ_range j
      rw [← hrj] at HOs HLK
      clear hrj
      have b1 : rj.length + 1 ≤ maxLen := by rw [HLK.out]; unfold maxLen; omega
      have b2 : (rj.length + 1) * 8 ≤ 140737488355328 := by rw [HLK.out]; omega
      go_wp2_with (at_builtin; refine wpList_append_own _ rfl (.tmp 61) (.tmp 63) 25 rfl w4.heap.size 3 i0 _ 1 8 Try.underlying25 hi hz0 hz1 hz2 rfl (by decide) _ rj.length (rj.map (Value.int .i64)) rfl (World.ownsRow.alloc HOs.out _) ⟨wr.heap.size, 0, none⟩ 1 1 [.int .i64 (j : Int)] rfl rfl (by have hx := cell_one_new wr (.int .i64 (j : Int)) 3; simpa using hx) (by intro u hu; simp at hu; subst hu; rfl) b1 b2 (by simp; omega) ?_; intro v' w4' hown' hgrow _)
      have HO4' := Lib.hid (OwnZ.snoc hown')
      have HB4' := Lib.hid ((bl_alloc HR.out _).grown hgrow (by simp; omega) (fun k e => (World.ownsRow.lt HOs.out k e).1))
      clear hown' hgrow b1 b2
      go_wp2
      go_roundw
      case rel => exact ⟨j + 1, by omega, by go_num, by rw [HSU.out]; exact HO4'.out, HB4'.out⟩
      case measure => simp [intOf]; omega
    · obtain rfl : j = ts.length := by omega
      have hji : ¬ (ts.length : Int) < (ts.length : Int) := by omega
      obtain ⟨ss, hss⟩ : ∃ ss, ss = toZ (List.range ts.length) := ⟨_, rfl⟩
      have HSP : Hid (putN ts (ss.map Int.toNat) = ts) := by show _ = _; rw [hss]; exact self_put ts
      have hsl : ss.length ≤ 5 := by rw [hss, toZ_len, List.length_range]; exact hl5
      rw [← hss] at HSO HOs
      clear hss
      obtain ⟨As, cs, rfl⟩ := HOs.out.form
      obtain ⟨ys, hys⟩ : ∃ ys, ys = ts := ⟨_, rfl⟩
      have HYS : Hid (ys = if true = true then putN ts (ss.map Int.toNat) else []) := by show _ = _; rw [hys, HSP.out]; rfl
      have HYT := Lib.hid hys
      have hyl : ys.length = ts.length := by rw [hys]
      have HYL := Lib.hid hyl
      clear hys hyl
      go_wp2_with fail
      refine (iPutOrder_is wr At _ ct ts As _ cs ss (tks_to HT.out (bl_trans HD4.out HR.out)) (by omega) HOs.out.reads ys true HSO.out HYS.out).mono ?_
      rintro e w7 ⟨Ay, cy, rfl, ho, hb⟩
      have HB7 := Lib.hid (bl_trans HB4.out (bl_trans HR.out hb))
      have HD7 := Lib.hid (bl_trans HD4.out (bl_trans HR.out hb))
      have HO7 := Lib.hid ho.reads.2
      have HS7 := Lib.hid ((HOs.out.below hb).reads)
      clear hb ho
      rw [HYT.out] at HO7
      rw [HYL.out]
      go_wp2_with fail
      refine (dmTasks_any w7 Ay At _ cy ct ts HO7.out (tks_to HT.out HD7.out) (by omega)).mono ?_
      rintro e w8 ⟨rfl, hb⟩
      have HB8 := Lib.hid (bl_trans HB7.out hb)
      have HD8 := Lib.hid (bl_trans HD7.out hb)
      have HS8 := Lib.hid ((HS7.out.below hb).more hb.size)
      clear hb
      go_wp2_with fail
      refine (iOrdValid_is w8 At _ ct ts As _ cs ss (tks_to HT.out HD8.out) (by omega) HS8.out true HSO.out).mono ?_
      rintro e w9 ⟨rfl, hb⟩
      have HB9 := Lib.hid (bl_trans HB8.out hb)
      clear hb
      go_wp2
      go_ret
      exact ⟨rfl, HB9.out⟩

end Go.Proofs.Ytgpmghnbibjbnaa
