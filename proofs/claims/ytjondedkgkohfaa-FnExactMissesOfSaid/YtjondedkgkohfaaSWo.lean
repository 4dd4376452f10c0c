/- Contract of the reference's WorstJobs. Nothing that was there is written. -/
import Derived.Test.YtjondedkgkohfaaSPu
import Derived.Test.YtjondedkgkohfaaJbC
namespace Go.Proofs.Ytjondedkgkohfaa
open Go.RowKit
set_option linter.unusedVariables false

theorem row_app (h : Bool) (n : Nat) : ∀ (xs ys : List Tk) (k : Nat), rowJ h n k (xs ++ ys) = rowJ h n k xs ++ rowJ h n (k + xs.length) ys
  | [], ys, k => by simp [rowJ]
  | t :: xs, ys, k => by
    rw [List.cons_append, rowJ, rowJ, row_app h n xs ys (k + 1), List.append_assoc]
    congr 3
    simp; omega
theorem row_take {h : Bool} {n q : Nat} {ts : List Tk} {t : Tk} (ht : ts[q]? = some t) : rowJ h n 0 (ts.take (q + 1)) = rowJ h n 0 (ts.take q) ++ if (n : Int) % t.ev = 0 then [⟨(q : Int), (n : Int), needOf h t⟩] else [] := by
  have hq := (List.getElem?_eq_some_iff.1 ht).1
  rw [List.take_add_one, ht, Option.toList_some, row_app]
  congr 1
  rw [List.length_take, Nat.min_eq_left (Nat.le_of_lt hq), Nat.zero_add]
  simp [rowJ]
theorem worst_more {h : Bool} {ts : List Tk} {k q U : Nat} (hk : k < U) : (worstL h ts k).length + (rowJ h k 0 (ts.take q)).length ≤ (worstL h ts U).length := by
  obtain ⟨r, hr⟩ := worst_pre (h := h) (ts := ts) (show k + 1 ≤ U by omega)
  rw [hr, worstL]
  have : rowJ h k 0 ts = rowJ h k 0 (ts.take q) ++ rowJ h k (0 + (ts.take q).length) (ts.drop q) := by rw [← row_app, List.take_append_drop]
  rw [this]
  simp
theorem cell_new3_at (w : World) (t : Jb) (ty : TypeId) (g : Nat) (hg : g = w.heap.size) : ∀ j u, t.cells[j]? = some u → (w.alloc (.cells #[.int .i64 t.ta, .int .i64 t.tm, .int .i64 t.ne] ty)).cell? ((⟨g, 0, none⟩ : Addr).add j) = some u := by
  subst hg; exact cell_new3 w t ty
set_option maxRecDepth 100000 in
set_option maxHeartbeats 4000000 in
theorem sWorst_true (w : World) (A : Option Addr) (n c : Nat) (ts : List Tk) (h : Tks w w.heap.size A n ts) (hn : n ≤ 1048576) (u : Int) (b : Bool) (hb : worstB ts u true = b) :
    Calls Try.prog 95 #[.slice A n c, .int .i64 u, .bool true] w (JsPut (worstV ts u true) b w) := by
  obtain ⟨i0, hi0, hz0, hz1, hz2⟩ := info_parts info_job
  have H := Lib.hid h
  have HL := Lib.hid h.len
  clear h
  have HR := Lib.hid hb
  cases hs : setB ts
  · obtain rfl : b = false := by rw [← hb]; unfold worstB; rw [hs]; rfl
    have hv : worstV ts u true = [] := by unfold worstV; rw [hb]; rfl
    rw [hv]
    have HS := Lib.hid hs
    clear hb hs hv
    go_enter Try.func95, Try.ntmps95
    go_wp2_with fail
    refine (sSetValid_any _ A n c ts ((H.out.below (bl_alloc (Below.refl w.heap.size w) _)).more (by simp)) hn).mono ?_
    rintro e w1 ⟨rfl, hb⟩
    rw [HS.out]
    have HB1 := Lib.hid (show Below w.heap.size w w1 from bl_trans (bl_alloc (Below.refl w.heap.size w) _) hb)
    have HO := Lib.hid ((OwnJ.empty w).below hb)
    clear hb
    go_wp2
    refine bodyPost_ret (v := .tuple #[.slice (some ⟨w.heap.size, 0, none⟩) 0 0, .bool false]) (by simp [results, Try.results95, go_sem]) rfl ⟨w.heap.size, 0, rfl, HO.out, HB1.out⟩
  have hn5 : n ≤ 5 := by have := setB_len hs; rw [HL.out] at this; exact this
  have HS := Lib.hid hs
  by_cases hu : 0 ≤ u ∧ u ≤ 200
  rotate_left
  · obtain rfl : b = false := by rw [← hb]; exact no_of fun hx => by unfold worstB at hx; simp at hx; omega
    have hv : worstV ts u true = [] := by unfold worstV; rw [hb]; rfl
    rw [hv]
    clear hb hs hv
    by_cases h1 : u < 0
    · have d1 : decide (u < 0) = true := decide_eq_true h1
      go_enter Try.func95, Try.ntmps95
      go_wp2_with fail
      refine (sSetValid_any _ A n c ts ((H.out.below (bl_alloc (Below.refl w.heap.size w) _)).more (by simp)) hn).mono ?_
      rintro e w1 ⟨rfl, hb⟩
      rw [HS.out]
      have HB1 := Lib.hid (show Below w.heap.size w w1 from bl_trans (bl_alloc (Below.refl w.heap.size w) _) hb)
      have HO := Lib.hid ((OwnJ.empty w).below hb)
      clear hb
      go_wp2
      refine bodyPost_ret (v := .tuple #[.slice (some ⟨w.heap.size, 0, none⟩) 0 0, .bool false]) (by simp [results, Try.results95, go_sem]) rfl ⟨w.heap.size, 0, rfl, HO.out, HB1.out⟩
    · have d1 : decide (u < 0) = false := decide_eq_false h1
      have h2 : 200 < u := by omega
      have d2 : decide (200 < u) = true := decide_eq_true h2
      go_enter Try.func95, Try.ntmps95
      go_wp2_with fail
      refine (sSetValid_any _ A n c ts ((H.out.below (bl_alloc (Below.refl w.heap.size w) _)).more (by simp)) hn).mono ?_
      rintro e w1 ⟨rfl, hb⟩
      rw [HS.out]
      have HB1 := Lib.hid (show Below w.heap.size w w1 from bl_trans (bl_alloc (Below.refl w.heap.size w) _) hb)
      have HO := Lib.hid ((OwnJ.empty w).below hb)
      clear hb
      go_wp2
      refine bodyPost_ret (v := .tuple #[.slice (some ⟨w.heap.size, 0, none⟩) 0 0, .bool false]) (by simp [results, Try.results95, go_sem]) rfl ⟨w.heap.size, 0, rfl, HO.out, HB1.out⟩
  obtain ⟨hu1, hu2⟩ := hu
  obtain ⟨U, rfl⟩ : ∃ U : Nat, u = (U : Int) := ⟨u.toNat, by omega⟩
  have hU : U ≤ 200 := by omega
  have hwb : worstB ts (U : Int) true = decide ((worstL true ts U).length ≤ 60) := by unfold worstB; rw [hs, decide_eq_true hu1, decide_eq_true hu2]; rfl
  have HWB := Lib.hid hwb
  have d1 : ¬ (U : Int) < 0 := by omega
  have d2 : ¬ (200 : Int) < (U : Int) := by omega
  clear hs hb hwb hu1 hu2
  go_enter Try.func95, Try.ntmps95
  go_wp2_with fail
  refine (sSetValid_any _ A n c ts ((H.out.below (bl_alloc (Below.refl w.heap.size w) _)).more (by simp)) hn).mono ?_
  rintro e w1 ⟨rfl, hb⟩
  rw [HS.out]
  have HB1 := Lib.hid (show Below w.heap.size w w1 from bl_trans (bl_alloc (Below.refl w.heap.size w) _) hb)
  have HO1 := Lib.hid ((OwnJ.empty w).below hb)
  clear hb
  go_wp2
  go_loopw [8, 9] (fun v i wr => ∃ k g cc : Nat, k ≤ U ∧ i = .int .i64 k ∧ v = .slice (some ⟨g, 0, none⟩) (worstL true ts k).length cc ∧ (worstL true ts k).length ≤ 60 ∧ Hid (OwnJ wr w.heap.size v (worstL true ts k)) ∧ Hid (Below w.heap.size w wr)) (fun _ i _ => U - (intOf i).toNat)
  case atStart => exact ⟨0, w.heap.size, 0, Nat.zero_le _, rfl, rfl, Nat.zero_le _, HO1, HB1⟩
  case round =>
    obtain ⟨k, g, cc, hk, rfl, rfl, h60, HO, HB⟩ := hrel
    by_cases hlt : k < U
    · have k2 : (k : Int) < (U : Int) := by omega
      obtain ⟨L0, hL0⟩ : ∃ L, L = worstL true ts k := ⟨_, rfl⟩
      have HL0 := Lib.hid hL0
      rw [← hL0] at HO h60 ⊢
      clear hL0
      obtain ⟨w5, hw5⟩ : ∃ W, W = wr := ⟨_, rfl⟩
      subst hw5
      go_wp2
      go_loopw [8, 10] (fun v i wr => ∃ q g cc : Nat, ∃ L : List Jb, q ≤ n ∧ i = .int .i64 q ∧ v = .slice (some ⟨g, 0, none⟩) L.length cc ∧ L.length ≤ 60 ∧ Hid (L = L0 ++ rowJ true k 0 (ts.take q)) ∧ Hid (OwnJ wr w.heap.size v L) ∧ Hid (Below w.heap.size w wr)) (fun _ i _ => n - (intOf i).toNat)
      case atStart => exact ⟨0, g, cc, L0, Nat.zero_le _, rfl, rfl, h60, Lib.hid (by simp [rowJ]), HO, HB⟩
      case round =>
        obtain ⟨q, g, cc, L, hq, rfl, rfl, hL60, HLL, HO, HB⟩ := hrel
        obtain ⟨wq, hwq⟩ : ∃ W, W = wr := ⟨_, rfl⟩
        subst hwq
        have hwqs : w.heap.size ≤ wq.heap.size := HB.out.size
        by_cases hqn : q < n
        · have q2 : (q : Int) < (n : Int) := by omega
          obtain ⟨t, ht⟩ : ∃ t, ts[q]? = some t := ⟨ts[q]'(by rw [HL.out]; exact hqn), List.getElem?_eq_getElem _⟩
          obtain ⟨bt, ot, rfl, hbt, c0, c1, c2, c3, c4⟩ := (H.out.below HB.out).at_ q t ht
          have hok : t.ok = true := by
            have := HS.out; unfold setB at this; simp at this
            exact this.2 t (List.mem_of_getElem? ht)
          have hbnd : 1 ≤ t.ev ∧ t.ev ≤ 20 := by unfold Tk.ok validB at hok; simp at hok; omega
          have HRT := Lib.hid (row_take (h := true) (n := k) ht)
          have hbt4 : bt < wq.heap.size := by omega
          have hne : bt ≠ wq.heap.size := by omega
          have z1 : ¬ t.ev = 0 := by omega
          have z2 : (t.ev == 0) = false := by simp; omega
          have hmod : Int.tmod (k : Int) t.ev = (k : Int) % t.ev := Int.tmod_eq_emod_of_nonneg (by omega)
          clear ht hok
          obtain ⟨lo, hi', du, ev, cr⟩ := t
          dsimp only at c0 c1 c3 hbnd HRT z1 z2 hmod
          by_cases hd : (k : Int) % ev = 0
          · have d5 : (Int.tmod (k : Int) ev == 0) = true := by rw [hmod]; simp; exact hd
            have d6 : Int.tmod (k : Int) ev = 0 := by rw [hmod]; exact hd
            have d7 : ((k : Int) % ev == 0) = true := by simp; exact hd
            have d8 : (k : Int) % ev = 0 := hd
            have HRX := Lib.hid (show rowJ true k 0 (ts.take (q + 1)) = rowJ true k 0 (ts.take q) ++ [⟨(q : Int), (k : Int), hi'⟩] by rw [HRT.out, if_pos hd]; rfl)
            clear hd hmod
            by_cases hfull : L.length = 60
            · have hbad : b = false := by
                rw [← HR.out, HWB.out]
                have hm := worst_more (h := true) (ts := ts) (q := q + 1) hlt
                rw [HRX.out, List.length_append, ← HL0.out] at hm
                have hl := HLL.out
                rw [hl, List.length_append] at hfull
                simp at hm
                exact decide_eq_false (by omega)
              have hv : worstV ts (U : Int) true = [] := by unfold worstV; rw [HR.out, hbad]; rfl
              have HV := Lib.hid hv
              subst hbad
              have e60 : ((L.length : Int) == 60) = true := by simp; omega
              have e61 : (L.length : Int) = 60 := by omega
              clear hv hfull
              go_wp2
              refine bodyPost_ret (v := .tuple #[.slice (some ⟨wq.heap.size, 0, none⟩) 0 0, .bool false]) (by simp [results, Try.results95, go_sem]) rfl (by rw [HV.out]; exact ⟨wq.heap.size, 0, rfl, (OwnJ.empty wq).less hwqs, bl_alloc HB.out _⟩)
            · have e60 : ((L.length : Int) == 60) = false := by rw [beq_eq_false_iff_ne]; omega
              have e61 : ¬ (L.length : Int) = 60 := by omega
              have e62 : ¬ L.length = 60 := hfull
              have c0a := fun o' => (World.cell?_alloc_lt wq o' ⟨bt, ot + q * 5, none⟩ hbt4).trans c0
              have c1a := fun o' => (World.cell?_alloc_lt wq o' ⟨bt, ot + q * 5 + 1, none⟩ hbt4).trans c1
              have cj := (Blk.new wq 35 #[.int .i64 (q : Int), .int .i64 (k : Int), .int .i64 lo]).cell
              have fj := (Blk.new wq 35 #[.int .i64 (q : Int), .int .i64 (k : Int), .int .i64 lo]).frozen
              have cj2 := ((Blk.new wq 35 #[.int .i64 (q : Int), .int .i64 (k : Int), .int .i64 lo]).set_ 2 (.int .i64 hi')).cell
              go_wp2_with (at_builtin; refine wpList_append_own _ rfl (.tmp 63) (.tmp 65) 24 rfl w.heap.size 35 i0 _ 3 24 Try.underlying24 hi0 hz0 hz1 hz2 rfl (by decide) _ L.length (L.flatMap Jb.cells) rfl (show OwnJ _ w.heap.size _ L from (HO.out.below (by repeat (first | exact Below.refl wq.heap.size wq | refine bl_set ?_ (by dsimp only; omega) _ | refine bl_alloc ?_ _))).alloc _) ⟨wq.heap.size + 1, 0, none⟩ 1 1 (Jb.cells ⟨(q : Int), (k : Int), hi'⟩) rfl rfl (cell_new3_at _ ⟨(q : Int), (k : Int), hi'⟩ _ _ (by simp)) (by intro u hu; exact jcells_one [⟨(q : Int), (k : Int), hi'⟩] u (by simpa using hu)) (by unfold maxLen; omega) (by omega) (by simp; omega) ?_; intro v2 w9 hown2 hgrow2 _; have HO2 := Lib.hid (show OwnJ w9 w.heap.size v2 (L ++ [⟨(q : Int), (k : Int), hi'⟩]) from OwnJ.snoc hown2); have HB9 := Lib.hid ((show Below w.heap.size w _ from bl_alloc (by repeat (first | exact HB.out | refine bl_set ?_ (by dsimp only; omega) _ | refine bl_alloc ?_ _)) _).grown hgrow2 (by simp; omega) (fun k e => (World.ownsRow.lt HO.out k e).1)); obtain ⟨g4, c4', hv2⟩ := HO2.out.some_ (by simp); have HLN := Lib.hid (show (L ++ [(⟨(q : Int), (k : Int), hi'⟩ : Jb)]).length = L.length + 1 by simp); rw [HLN.out] at hv2; subst hv2; clear hown2 hgrow2)
              go_roundw
              case rel => exact ⟨q + 1, g4, c4', L ++ [⟨(q : Int), (k : Int), hi'⟩], by omega, by go_num, by rw [HLN.out], by simp; omega, Lib.hid (by rw [HLL.out, HRX.out, List.append_assoc]), HO2, HB9⟩
              case measure => simp [intOf]; omega
          · have d5 : (Int.tmod (k : Int) ev == 0) = false := by rw [hmod]; simp; exact hd
            have d6 : ¬ Int.tmod (k : Int) ev = 0 := by rw [hmod]; exact hd
            have d7 : ((k : Int) % ev == 0) = false := by simp; exact hd
            have d8 : ¬ (k : Int) % ev = 0 := hd
            have HRX := Lib.hid (show rowJ true k 0 (ts.take (q + 1)) = rowJ true k 0 (ts.take q) by rw [HRT.out, if_neg hd, List.append_nil])
            clear hd hmod
            go_wp2
            go_roundw
            case rel => exact ⟨q + 1, g, cc, L, by omega, by go_num, rfl, hL60, Lib.hid (by rw [HLL.out, HRX.out]), HO, HB⟩
            case measure => simp [intOf]; omega
        · obtain rfl : q = n := by omega
          have HW := Lib.hid (show L = worstL true ts (k + 1) by rw [HLL.out, HL0.out, worstL, List.take_of_length_le (by rw [HL.out]; exact Nat.le_refl _)])
          go_wp2
          go_roundw
          case rel => exact ⟨k + 1, g, cc, by omega, by go_num, by rw [← HW.out], by rw [← HW.out]; exact hL60, by rw [← HW.out]; exact HO, HB⟩
          case measure => simp [intOf]; omega
    · obtain rfl : k = U := by omega
      have hbt : b = true := by rw [← HR.out, HWB.out]; exact decide_eq_true h60
      subst hbt
      have hv : worstV ts (k : Int) true = worstL true ts k := by unfold worstV; rw [HR.out]; rfl
      have HV := Lib.hid hv
      clear hv
      go_wp2
      refine bodyPost_ret (v := .tuple #[.slice (some ⟨g, 0, none⟩) (worstL true ts k).length cc, .bool true]) (by simp [results, Try.results95, go_sem]) rfl (by rw [HV.out]; exact ⟨g, cc, rfl, HO.out, HB.out⟩)

set_option maxRecDepth 100000 in
set_option maxHeartbeats 4000000 in
theorem sWorst_false (w : World) (A : Option Addr) (n c : Nat) (ts : List Tk) (h : Tks w w.heap.size A n ts) (hn : n ≤ 1048576) (u : Int) (b : Bool) (hb : worstB ts u false = b) :
    Calls Try.prog 95 #[.slice A n c, .int .i64 u, .bool false] w (JsPut (worstV ts u false) b w) := by
  obtain ⟨i0, hi0, hz0, hz1, hz2⟩ := info_parts info_job
  have H := Lib.hid h
  have HL := Lib.hid h.len
  clear h
  have HR := Lib.hid hb
  cases hs : setB ts
  · obtain rfl : b = false := by rw [← hb]; unfold worstB; rw [hs]; rfl
    have hv : worstV ts u false = [] := by unfold worstV; rw [hb]; rfl
    rw [hv]
    have HS := Lib.hid hs
    clear hb hs hv
    go_enter Try.func95, Try.ntmps95
    go_wp2_with fail
    refine (sSetValid_any _ A n c ts ((H.out.below (bl_alloc (Below.refl w.heap.size w) _)).more (by simp)) hn).mono ?_
    rintro e w1 ⟨rfl, hb⟩
    rw [HS.out]
    have HB1 := Lib.hid (show Below w.heap.size w w1 from bl_trans (bl_alloc (Below.refl w.heap.size w) _) hb)
    have HO := Lib.hid ((OwnJ.empty w).below hb)
    clear hb
    go_wp2
    refine bodyPost_ret (v := .tuple #[.slice (some ⟨w.heap.size, 0, none⟩) 0 0, .bool false]) (by simp [results, Try.results95, go_sem]) rfl ⟨w.heap.size, 0, rfl, HO.out, HB1.out⟩
  have hn5 : n ≤ 5 := by have := setB_len hs; rw [HL.out] at this; exact this
  have HS := Lib.hid hs
  by_cases hu : 0 ≤ u ∧ u ≤ 200
  rotate_left
  · obtain rfl : b = false := by rw [← hb]; exact no_of fun hx => by unfold worstB at hx; simp at hx; omega
    have hv : worstV ts u false = [] := by unfold worstV; rw [hb]; rfl
    rw [hv]
    clear hb hs hv
    by_cases h1 : u < 0
    · have d1 : decide (u < 0) = true := decide_eq_true h1
      go_enter Try.func95, Try.ntmps95
      go_wp2_with fail
      refine (sSetValid_any _ A n c ts ((H.out.below (bl_alloc (Below.refl w.heap.size w) _)).more (by simp)) hn).mono ?_
      rintro e w1 ⟨rfl, hb⟩
      rw [HS.out]
      have HB1 := Lib.hid (show Below w.heap.size w w1 from bl_trans (bl_alloc (Below.refl w.heap.size w) _) hb)
      have HO := Lib.hid ((OwnJ.empty w).below hb)
      clear hb
      go_wp2
      refine bodyPost_ret (v := .tuple #[.slice (some ⟨w.heap.size, 0, none⟩) 0 0, .bool false]) (by simp [results, Try.results95, go_sem]) rfl ⟨w.heap.size, 0, rfl, HO.out, HB1.out⟩
    · have d1 : decide (u < 0) = false := decide_eq_false h1
      have h2 : 200 < u := by omega
      have d2 : decide (200 < u) = true := decide_eq_true h2
      go_enter Try.func95, Try.ntmps95
      go_wp2_with fail
      refine (sSetValid_any _ A n c ts ((H.out.below (bl_alloc (Below.refl w.heap.size w) _)).more (by simp)) hn).mono ?_
      rintro e w1 ⟨rfl, hb⟩
      rw [HS.out]
      have HB1 := Lib.hid (show Below w.heap.size w w1 from bl_trans (bl_alloc (Below.refl w.heap.size w) _) hb)
      have HO := Lib.hid ((OwnJ.empty w).below hb)
      clear hb
      go_wp2
      refine bodyPost_ret (v := .tuple #[.slice (some ⟨w.heap.size, 0, none⟩) 0 0, .bool false]) (by simp [results, Try.results95, go_sem]) rfl ⟨w.heap.size, 0, rfl, HO.out, HB1.out⟩
  obtain ⟨hu1, hu2⟩ := hu
  obtain ⟨U, rfl⟩ : ∃ U : Nat, u = (U : Int) := ⟨u.toNat, by omega⟩
  have hU : U ≤ 200 := by omega
  have hwb : worstB ts (U : Int) false = decide ((worstL false ts U).length ≤ 60) := by unfold worstB; rw [hs, decide_eq_true hu1, decide_eq_true hu2]; rfl
  have HWB := Lib.hid hwb
  have d1 : ¬ (U : Int) < 0 := by omega
  have d2 : ¬ (200 : Int) < (U : Int) := by omega
  clear hs hb hwb hu1 hu2
  go_enter Try.func95, Try.ntmps95
  go_wp2_with fail
  refine (sSetValid_any _ A n c ts ((H.out.below (bl_alloc (Below.refl w.heap.size w) _)).more (by simp)) hn).mono ?_
  rintro e w1 ⟨rfl, hb⟩
  rw [HS.out]
  have HB1 := Lib.hid (show Below w.heap.size w w1 from bl_trans (bl_alloc (Below.refl w.heap.size w) _) hb)
  have HO1 := Lib.hid ((OwnJ.empty w).below hb)
  clear hb
  go_wp2
  go_loopw [8, 9] (fun v i wr => ∃ k g cc : Nat, k ≤ U ∧ i = .int .i64 k ∧ v = .slice (some ⟨g, 0, none⟩) (worstL false ts k).length cc ∧ (worstL false ts k).length ≤ 60 ∧ Hid (OwnJ wr w.heap.size v (worstL false ts k)) ∧ Hid (Below w.heap.size w wr)) (fun _ i _ => U - (intOf i).toNat)
  case atStart => exact ⟨0, w.heap.size, 0, Nat.zero_le _, rfl, rfl, Nat.zero_le _, HO1, HB1⟩
  case round =>
    obtain ⟨k, g, cc, hk, rfl, rfl, h60, HO, HB⟩ := hrel
    by_cases hlt : k < U
    · have k2 : (k : Int) < (U : Int) := by omega
      obtain ⟨L0, hL0⟩ : ∃ L, L = worstL false ts k := ⟨_, rfl⟩
      have HL0 := Lib.hid hL0
      rw [← hL0] at HO h60 ⊢
      clear hL0
      obtain ⟨w5, hw5⟩ : ∃ W, W = wr := ⟨_, rfl⟩
      subst hw5
      go_wp2
      go_loopw [8, 10] (fun v i wr => ∃ q g cc : Nat, ∃ L : List Jb, q ≤ n ∧ i = .int .i64 q ∧ v = .slice (some ⟨g, 0, none⟩) L.length cc ∧ L.length ≤ 60 ∧ Hid (L = L0 ++ rowJ false k 0 (ts.take q)) ∧ Hid (OwnJ wr w.heap.size v L) ∧ Hid (Below w.heap.size w wr)) (fun _ i _ => n - (intOf i).toNat)
      case atStart => exact ⟨0, g, cc, L0, Nat.zero_le _, rfl, rfl, h60, Lib.hid (by simp [rowJ]), HO, HB⟩
      case round =>
        obtain ⟨q, g, cc, L, hq, rfl, rfl, hL60, HLL, HO, HB⟩ := hrel
        obtain ⟨wq, hwq⟩ : ∃ W, W = wr := ⟨_, rfl⟩
        subst hwq
        have hwqs : w.heap.size ≤ wq.heap.size := HB.out.size
        by_cases hqn : q < n
        · have q2 : (q : Int) < (n : Int) := by omega
          obtain ⟨t, ht⟩ : ∃ t, ts[q]? = some t := ⟨ts[q]'(by rw [HL.out]; exact hqn), List.getElem?_eq_getElem _⟩
          obtain ⟨bt, ot, rfl, hbt, c0, c1, c2, c3, c4⟩ := (H.out.below HB.out).at_ q t ht
          have hok : t.ok = true := by
            have := HS.out; unfold setB at this; simp at this
            exact this.2 t (List.mem_of_getElem? ht)
          have hbnd : 1 ≤ t.ev ∧ t.ev ≤ 20 := by unfold Tk.ok validB at hok; simp at hok; omega
          have HRT := Lib.hid (row_take (h := false) (n := k) ht)
          have hbt4 : bt < wq.heap.size := by omega
          have hne : bt ≠ wq.heap.size := by omega
          have z1 : ¬ t.ev = 0 := by omega
          have z2 : (t.ev == 0) = false := by simp; omega
          have hmod : Int.tmod (k : Int) t.ev = (k : Int) % t.ev := Int.tmod_eq_emod_of_nonneg (by omega)
          clear ht hok
          obtain ⟨lo, hi', du, ev, cr⟩ := t
          dsimp only at c0 c1 c3 hbnd HRT z1 z2 hmod
          by_cases hd : (k : Int) % ev = 0
          · have d5 : (Int.tmod (k : Int) ev == 0) = true := by rw [hmod]; simp; exact hd
            have d6 : Int.tmod (k : Int) ev = 0 := by rw [hmod]; exact hd
            have d7 : ((k : Int) % ev == 0) = true := by simp; exact hd
            have d8 : (k : Int) % ev = 0 := hd
            have HRX := Lib.hid (show rowJ false k 0 (ts.take (q + 1)) = rowJ false k 0 (ts.take q) ++ [⟨(q : Int), (k : Int), lo⟩] by rw [HRT.out, if_pos hd]; rfl)
            clear hd hmod
            by_cases hfull : L.length = 60
            · have hbad : b = false := by
                rw [← HR.out, HWB.out]
                have hm := worst_more (h := false) (ts := ts) (q := q + 1) hlt
                rw [HRX.out, List.length_append, ← HL0.out] at hm
                have hl := HLL.out
                rw [hl, List.length_append] at hfull
                simp at hm
                exact decide_eq_false (by omega)
              have hv : worstV ts (U : Int) false = [] := by unfold worstV; rw [HR.out, hbad]; rfl
              have HV := Lib.hid hv
              subst hbad
              have e60 : ((L.length : Int) == 60) = true := by simp; omega
              have e61 : (L.length : Int) = 60 := by omega
              clear hv hfull
              go_wp2
              refine bodyPost_ret (v := .tuple #[.slice (some ⟨wq.heap.size, 0, none⟩) 0 0, .bool false]) (by simp [results, Try.results95, go_sem]) rfl (by rw [HV.out]; exact ⟨wq.heap.size, 0, rfl, (OwnJ.empty wq).less hwqs, bl_alloc HB.out _⟩)
            · have e60 : ((L.length : Int) == 60) = false := by rw [beq_eq_false_iff_ne]; omega
              have e61 : ¬ (L.length : Int) = 60 := by omega
              have e62 : ¬ L.length = 60 := hfull
              have c0a := fun o' => (World.cell?_alloc_lt wq o' ⟨bt, ot + q * 5, none⟩ hbt4).trans c0
              have c1a := fun o' => (World.cell?_alloc_lt wq o' ⟨bt, ot + q * 5 + 1, none⟩ hbt4).trans c1
              have cj := (Blk.new wq 35 #[.int .i64 (q : Int), .int .i64 (k : Int), .int .i64 lo]).cell
              have fj := (Blk.new wq 35 #[.int .i64 (q : Int), .int .i64 (k : Int), .int .i64 lo]).frozen
              have cj2 := ((Blk.new wq 35 #[.int .i64 (q : Int), .int .i64 (k : Int), .int .i64 lo]).set_ 2 (.int .i64 lo)).cell
              go_wp2_with (at_builtin; refine wpList_append_own _ rfl (.tmp 63) (.tmp 65) 24 rfl w.heap.size 35 i0 _ 3 24 Try.underlying24 hi0 hz0 hz1 hz2 rfl (by decide) _ L.length (L.flatMap Jb.cells) rfl (show OwnJ _ w.heap.size _ L from (HO.out.below (by repeat (first | exact Below.refl wq.heap.size wq | refine bl_set ?_ (by dsimp only; omega) _ | refine bl_alloc ?_ _))).alloc _) ⟨wq.heap.size + 1, 0, none⟩ 1 1 (Jb.cells ⟨(q : Int), (k : Int), lo⟩) rfl rfl (cell_new3_at _ ⟨(q : Int), (k : Int), lo⟩ _ _ (by simp)) (by intro u hu; exact jcells_one [⟨(q : Int), (k : Int), lo⟩] u (by simpa using hu)) (by unfold maxLen; omega) (by omega) (by simp; omega) ?_; intro v2 w9 hown2 hgrow2 _; have HO2 := Lib.hid (show OwnJ w9 w.heap.size v2 (L ++ [⟨(q : Int), (k : Int), lo⟩]) from OwnJ.snoc hown2); have HB9 := Lib.hid ((show Below w.heap.size w _ from bl_alloc (by repeat (first | exact HB.out | refine bl_set ?_ (by dsimp only; omega) _ | refine bl_alloc ?_ _)) _).grown hgrow2 (by simp; omega) (fun k e => (World.ownsRow.lt HO.out k e).1)); obtain ⟨g4, c4', hv2⟩ := HO2.out.some_ (by simp); have HLN := Lib.hid (show (L ++ [(⟨(q : Int), (k : Int), lo⟩ : Jb)]).length = L.length + 1 by simp); rw [HLN.out] at hv2; subst hv2; clear hown2 hgrow2)
              go_roundw
              case rel => exact ⟨q + 1, g4, c4', L ++ [⟨(q : Int), (k : Int), lo⟩], by omega, by go_num, by rw [HLN.out], by simp; omega, Lib.hid (by rw [HLL.out, HRX.out, List.append_assoc]), HO2, HB9⟩
              case measure => simp [intOf]; omega
          · have d5 : (Int.tmod (k : Int) ev == 0) = false := by rw [hmod]; simp; exact hd
            have d6 : ¬ Int.tmod (k : Int) ev = 0 := by rw [hmod]; exact hd
            have d7 : ((k : Int) % ev == 0) = false := by simp; exact hd
            have d8 : ¬ (k : Int) % ev = 0 := hd
            have HRX := Lib.hid (show rowJ false k 0 (ts.take (q + 1)) = rowJ false k 0 (ts.take q) by rw [HRT.out, if_neg hd, List.append_nil])
            clear hd hmod
            go_wp2
            go_roundw
            case rel => exact ⟨q + 1, g, cc, L, by omega, by go_num, rfl, hL60, Lib.hid (by rw [HLL.out, HRX.out]), HO, HB⟩
            case measure => simp [intOf]; omega
        · obtain rfl : q = n := by omega
          have HW := Lib.hid (show L = worstL false ts (k + 1) by rw [HLL.out, HL0.out, worstL, List.take_of_length_le (by rw [HL.out]; exact Nat.le_refl _)])
          go_wp2
          go_roundw
          case rel => exact ⟨k + 1, g, cc, by omega, by go_num, by rw [← HW.out], by rw [← HW.out]; exact hL60, by rw [← HW.out]; exact HO, HB⟩
          case measure => simp [intOf]; omega
    · obtain rfl : k = U := by omega
      have hbt : b = true := by rw [← HR.out, HWB.out]; exact decide_eq_true h60
      subst hbt
      have hv : worstV ts (k : Int) false = worstL false ts k := by unfold worstV; rw [HR.out]; rfl
      have HV := Lib.hid hv
      clear hv
      go_wp2
      refine bodyPost_ret (v := .tuple #[.slice (some ⟨g, 0, none⟩) (worstL false ts k).length cc, .bool true]) (by simp [results, Try.results95, go_sem]) rfl (by rw [HV.out]; exact ⟨g, cc, rfl, HO.out, HB.out⟩)

theorem sWorst_is (w : World) (A : Option Addr) (n c : Nat) (ts : List Tk) (h : Tks w w.heap.size A n ts) (hn : n ≤ 1048576) (u : Int) (hh b : Bool) (hb : worstB ts u hh = b) :
    Calls Try.prog 95 #[.slice A n c, .int .i64 u, .bool hh] w (JsPut (worstV ts u hh) b w) := by
  cases hh
  · exact sWorst_false w A n c ts h hn u b hb
  · exact sWorst_true w A n c ts h hn u b hb
end Go.Proofs.Ytjondedkgkohfaa
