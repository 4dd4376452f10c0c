/- Contracts of FormatTrace, the program's and the reference's. -/
import Derived.Test.YtjondedkgkohfaaRnA
import Derived.Test.YtjondedkgkohfaaRnD
import Derived.Deep.QuietTactic
import Derived.BigQuiet
import Derived.LoopTactic
import Derived.Laws.IdiomStrings
namespace Go.Proofs.Ytjondedkgkohfaa
open Go.RowKit
set_option linter.unusedVariables false

abbrev str (l : List UInt8) : Value := .string ⟨l.toArray⟩
def okX (x : Int) : Bool := x == -1 || (decide (0 ≤ x) && decide (x < 5))
def chB (x : Int) : UInt8 := if x = -1 then 46 else UInt8.ofNat (48 + x.toNat)
/-- The text of the ticks of a run. -/
def fmtT (tr : List Int) : List UInt8 := if tr.length ≤ 200 ∧ tr.all okX = true then tr.map chB else []
theorem fmt_bad {tr : List Int} {k : Nat} {x : Int} (hx : tr[k]? = some x) (h : okX x = false) : fmtT tr = [] := by
  unfold fmtT
  rw [if_neg]
  rintro ⟨_, h2⟩
  have := List.all_eq_true.1 h2 x (List.mem_of_getElem? hx)
  rw [h] at this
  cases this
theorem fmt_long {tr : List Int} (h : 200 < tr.length) : fmtT tr = [] := by
  unfold fmtT
  rw [if_neg]
  rintro ⟨h1, _⟩
  omega
theorem fmt_all {tr : List Int} (h : tr.length ≤ 200) (h2 : tr.all okX = true) : fmtT tr = tr.map chB := by
  unfold fmtT
  rw [if_pos ⟨h, h2⟩]
theorem map_snoc {tr : List Int} {k : Nat} {x : Int} {l : List UInt8} {c : UInt8} (hx : tr[k]? = some x) (h : (tr.take k).map chB = l) (hc : chB x = c) : (tr.take (k + 1)).map chB = l ++ [c] := by
  obtain ⟨hk, rfl⟩ := List.getElem?_eq_some_iff.1 hx
  rw [List.take_succ_eq_append_getElem hk, List.map_append, h, ← hc]
  rfl
theorem all_snoc {tr : List Int} {k : Nat} {x : Int} (hx : tr[k]? = some x) (h : (tr.take k).all okX = true) (hc : okX x = true) : (tr.take (k + 1)).all okX = true := by
  obtain ⟨hk, rfl⟩ := List.getElem?_eq_some_iff.1 hx
  rw [List.take_succ_eq_append_getElem hk, List.all_append, h]
  simp [hc]
def byV (b : UInt8) : Value := .int .u8 (b.toNat : Int)
/-- The slice is the call's own and holds these bytes. -/
def OwnB (w : World) (B : Nat) (v : Value) (l : List UInt8) : Prop := w.ownsRow B 5 1 v l.length (l.map byV)
theorem OwnB.alloc {w : World} {B : Nat} {v : Value} {l : List UInt8} (h : OwnB w B v l) (o : Obj) : OwnB (w.alloc o) B v l := World.ownsRow.alloc h o
theorem OwnB.snoc {w : World} {B : Nat} {v : Value} {l : List UInt8} {c : UInt8} (h : w.ownsRow B 5 1 v (l.length + 1) (l.map byV ++ [byV c])) : OwnB w B v (l ++ [c]) := by
  unfold OwnB
  rw [List.length_append, List.map_append]
  exact h
theorem OwnB.some_ {w : World} {B : Nat} {v : Value} {l : List UInt8} (h : OwnB w B v l) (hl : 0 < l.length) : ∃ g c, v = .slice (some ⟨g, 0, none⟩) l.length c := by
  rcases h.2 with ⟨e, h0⟩ | ⟨g, cap, cur, e, _⟩
  · omega
  · exact ⟨g, cap, e⟩
theorem OwnB.cell {w : World} {B g c : Nat} {l : List UInt8} (h : OwnB w B (.slice (some ⟨g, 0, none⟩) l.length c) l) (i : Nat) (hi : i < l.length) : w.cell? ⟨g, i, none⟩ = some (.int .u8 (l[i].toNat : Int)) := by
  have := World.ownsRow.cells (g := g) h rfl i (byV l[i]) (by rw [List.getElem?_map, List.getElem?_eq_getElem hi]; rfl)
  have ea : (⟨g, 0, none⟩ : Addr).add i = ⟨g, i, none⟩ := by unfold Addr.add; split <;> simp_all
  rw [ea] at this
  exact this
theorem conv_own {w : World} {B g c : Nat} {l : List UInt8} (h : OwnB w B (.slice (some ⟨g, 0, none⟩) l.length c) l) :
    (convert 22 9 (.slice (some ⟨g, 0, none⟩) l.length c)).run Try.prog w = .ok (str l) w := by
  refine run_convert_bytes_back _ _ _ 5 _ _ l Try.underlying22 Try.underlying5 Try.underlying9 ?_
  intro j hj
  have ea : (⟨g, 0, none⟩ : Addr).add j = ⟨g, j, none⟩ := by unfold Addr.add; split <;> simp_all
  rw [ea]
  exact h.cell j hj
theorem cell_newv_at (w : World) (z : Value) (ty : TypeId) (g : Nat) (hg : g = w.heap.size) : ∀ j u, ([z] : List Value)[j]? = some u → (w.alloc (.cells #[z] ty)).cell? ((⟨g, 0, none⟩ : Addr).add j) = some u := by
  subst hg
  intro j u hj
  have ea : (⟨w.heap.size, 0, none⟩ : Addr).add j = ⟨w.heap.size, j, none⟩ := by unfold Addr.add; split <;> simp_all
  rw [ea, (Blk.new w ty #[z]).cell j, ← hj]
  simp
theorem info_u8 : (Try.prog.info? 5).map (fun i => (i.zero, i.size, i.bytes)) = some (some (.int .u8 0), 1, 1) := by kernel_rfl
theorem byV_digit (k : Nat) (h : k < 5) : byV (UInt8.ofNat (48 + k)) = .int .u8 (48 + (k : Int)) := by
  rcases (by omega : k = 0 ∨ k = 1 ∨ k = 2 ∨ k = 3 ∨ k = 4) with rfl | rfl | rfl | rfl | rfl <;> rfl
def TxtRes (l : List UInt8) (w : World) (e : Ending) (w' : World) : Prop := e = .returned (str l) ∧ Below w.heap.size w w'

set_option maxRecDepth 100000 in
set_option maxHeartbeats 2000000 in
theorem iFmtT_is (w : World) (A1 : Option Addr) (n1 c1 : Nat) (A2 : Option Addr) (n2 c2 : Nat) (A3 : Option Addr) (n3 c3 : Nat) (hi : Bool) (tr : List Int) (h : Zs w w.heap.size A2 n2 tr) (hn : n2 ≤ 1100000) :
    Calls Try.prog 33 #[.agg #[.slice A1 n1 c1, .slice A2 n2 c2, .slice A3 n3 c3, .bool hi]] w (TxtRes (fmtT tr) w) := by
  obtain ⟨i0, hi', hz0, hz1, hz2⟩ := info_parts info_u8
  have HE := Lib.hid (And.intro (bl_alloc (Below.refl w.heap.size w) (.cells #[.slice A1 n1 c1, .slice A2 n2 c2, .slice A3 n3 c3, .bool hi] 27)) (Blk.new w 27 #[.slice A1 n1 c1, .slice A2 n2 c2, .slice A3 n3 c3, .bool hi]))
  have H := Lib.hid h
  have HL0 := Lib.hid h.len
  clear h
  by_cases hlong : 200 < n2
  · have d1 : (200 : Int) < (n2 : Int) := by omega
    have HF := Lib.hid (fmt_long (tr := tr) (by rw [HL0.out]; exact hlong))
    go_enter Try.func33, Try.ntmps33
    go_wp2
    go_ret
    exact ⟨by rw [HF.out]; rfl, HE.out.1⟩
  have hs200 : n2 ≤ 200 := by omega
  have d1 : ¬ (200 : Int) < (n2 : Int) := by omega
  have d2 : (n2 : Int) ≤ 200 := by omega
  clear hlong
  go_enter Try.func33, Try.ntmps33
  go_wp2_with (at_make; refine wpList_make_own _ rfl _ _ 22 rfl w.heap.size 5 i0 _ 1 Try.underlying22 hi' hz0 hz1 .i64 .i64 _ n2 rfl rfl rfl (by rw [hz2]; omega) (by unfold maxLen; omega) (by simp) ?_; intro w2 hown0 hgrow0; have HO0 := Lib.hid (show OwnB w2 w.heap.size (.slice (some ⟨w.heap.size + 1, 0, none⟩) 0 n2) [] from by have h := hown0; simp only [World.size_alloc] at h; exact h); have HB0 := Lib.hid (HE.out.1.grown hgrow0 (by simp) (fun k e => by cases e)); have cB := (HE.out.2.grown hgrow0 (by intro e; cases e)).cell; clear hown0 hgrow0)
  go_loopw [3, 17] (fun v i wr => ∃ (k : Nat) (l : List UInt8) (g c : Nat), k ≤ n2 ∧ i = .int .i64 k ∧ v = .slice (some ⟨g, 0, none⟩) l.length c ∧ l.length ≤ k ∧ Hid ((tr.take k).map chB = l) ∧ Hid ((tr.take k).all okX = true) ∧ Hid (OwnB wr w.heap.size (.slice (some ⟨g, 0, none⟩) l.length c) l) ∧ Hid (Below w.heap.size w wr)) (fun _ i _ => n2 - (intOf i).toNat)
  case atStart => exact ⟨0, [], w.heap.size + 1, n2, Nat.zero_le _, rfl, rfl, Nat.le_refl _, Lib.hid rfl, Lib.hid rfl, HO0, HB0⟩
  case round =>
    obtain ⟨k, l, g, c, hk, rfl, rfl, hlk, HL, HA, HO, HB⟩ := hrel
    have hw1 : w.heap.size ≤ wr.heap.size := HB.out.size
    by_cases hkn : k < n2
    · have q2 : (k : Int) < (n2 : Int) := by omega
      obtain ⟨x, hx⟩ := zs_at H.out hkn
      obtain ⟨b, o, rfl, hbl, c0⟩ := (H.out.below HB.out).at_ k x hx
      by_cases hd : x = -1
      · subst hd
        have HN := Lib.hid (map_snoc (c := 46) hx HL.out rfl)
        have HA2 := Lib.hid (all_snoc hx HA.out rfl)
        clear hx
        go_wp2_with (at_builtin; refine wpList_append_own _ rfl (.tmp 24) (.tmp 25) 22 rfl w.heap.size 5 i0 _ 1 1 Try.underlying22 hi' hz0 hz1 hz2 rfl (by decide) _ l.length (l.map byV) rfl (HO.out.alloc _) ⟨wr.heap.size, 0, none⟩ 1 1 [Value.int .u8 46] rfl rfl (cell_newv_at _ _ _ _ rfl) (by intro u hu; rw [List.mem_singleton.1 hu]; rfl) (by unfold maxLen; omega) (by omega) (by simp; omega) ?_; intro v2 w9 hown2 hgrow2 _; have HO2 := Lib.hid (show OwnB w9 w.heap.size v2 (l ++ [46]) from OwnB.snoc (hown2)); have HB9 := Lib.hid ((bl_alloc HB.out _).grown hgrow2 (by simp; omega) (fun k e => (World.ownsRow.lt HO.out k e).1)); clear hown2 hgrow2)
        obtain ⟨g2, c2', rfl⟩ := HO2.out.some_ (by simp)
        go_wp2
        go_roundw
        case rel => exact ⟨k + 1, l ++ [46], g2, c2', by omega, by go_num, rfl, by simp; omega, HN, HA2, HO2, HB9⟩
        case measure => simp [intOf]; omega
      have t1 : (x == -1) = false := by simpa using hd
      by_cases hr : 0 ≤ x ∧ x < 5
      · obtain ⟨d, rfl⟩ := Int.eq_ofNat_of_zero_le hr.1
        have hd5 : d < 5 := by omega
        have HN := Lib.hid (map_snoc (c := UInt8.ofNat (48 + d)) hx HL.out (by unfold chB; rw [if_neg hd]; rfl))
        have HA2 := Lib.hid (all_snoc hx HA.out (by unfold okX; simp; omega))
        have HBY := Lib.hid (byV_digit d hd5)
        have g1 : (0 : Int) ≤ (d : Int) := hr.1
        have g2 : (d : Int) < 5 := hr.2
        have kw1 : IntKind.u8.wrap (d : Int) = (d : Int) := by rcases (by omega : d = 0 ∨ d = 1 ∨ d = 2 ∨ d = 3 ∨ d = 4) with rfl | rfl | rfl | rfl | rfl <;> rfl
        have kw2 : IntKind.u8.wrap (48 + (d : Int)) = 48 + (d : Int) := by rcases (by omega : d = 0 ∨ d = 1 ∨ d = 2 ∨ d = 3 ∨ d = 4) with rfl | rfl | rfl | rfl | rfl <;> rfl
        have kw3 : IntKind.i64.wrap (48 + (d : Int)) = 48 + (d : Int) := IntWalk.i64_in _ (by omega)
        clear hx hr hd
        go_wp2_with (at_builtin; refine wpList_append_own _ rfl (.tmp 34) (.tmp 38) 22 rfl w.heap.size 5 i0 _ 1 1 Try.underlying22 hi' hz0 hz1 hz2 rfl (by decide) _ l.length (l.map byV) rfl (HO.out.alloc _) ⟨wr.heap.size, 0, none⟩ 1 1 [Value.int .u8 (48 + (d : Int))] rfl rfl (cell_newv_at _ _ _ _ rfl) (by intro u hu; rw [List.mem_singleton.1 hu]; rfl) (by unfold maxLen; omega) (by omega) (by simp; omega) ?_; intro v2 w9 hown2 hgrow2 _; have HO2 := Lib.hid (show OwnB w9 w.heap.size v2 (l ++ [UInt8.ofNat (48 + d)]) from OwnB.snoc (by rw [HBY.out]; exact hown2)); have HB9 := Lib.hid ((bl_alloc HB.out _).grown hgrow2 (by simp; omega) (fun k e => (World.ownsRow.lt HO.out k e).1)); clear hown2 hgrow2)
        obtain ⟨g2', c2', rfl⟩ := HO2.out.some_ (by simp)
        go_wp2
        go_roundw
        case rel => exact ⟨k + 1, l ++ [UInt8.ofNat (48 + d)], g2', c2', by omega, by go_num, rfl, by simp; omega, HN, HA2, HO2, HB9⟩
        case measure => simp [intOf]; omega
      have hbad : okX x = false := by
        unfold okX
        rw [t1]
        simp
        omega
      have HF := Lib.hid (fmt_bad hx hbad)
      clear hx hbad
      by_cases h0 : 0 ≤ x
      · have h5 : ¬ x < 5 := by omega
        clear hr
        go_wp2
        go_ret
        exact ⟨by rw [HF.out]; rfl, HB.out⟩
      · clear hr
        go_wp2
        go_ret
        exact ⟨by rw [HF.out]; rfl, HB.out⟩
    · obtain rfl : k = n2 := by omega
      have hcv := conv_own HO.out
      have HF := Lib.hid (fmt_all (tr := tr) (by rw [HL0.out]; exact hs200) (by have h := HA.out; rwa [List.take_of_length_le (by rw [HL0.out]; exact Nat.le_refl _)] at h))
      have HLL : Hid (tr.map chB = l) := by have h := HL.out; rw [List.take_of_length_le (by rw [HL0.out]; exact Nat.le_refl _)] at h; exact Lib.hid h
      go_wp2
      go_ret
      exact ⟨by rw [HF.out, HLL.out]; rfl, HB.out⟩

set_option maxRecDepth 100000 in
set_option maxHeartbeats 2000000 in
theorem sFmtT_is (w : World) (A1 : Option Addr) (n1 c1 : Nat) (A2 : Option Addr) (n2 c2 : Nat) (A3 : Option Addr) (n3 c3 : Nat) (hi : Bool) (tr : List Int) (h : Zs w w.heap.size A2 n2 tr) (hn : n2 ≤ 1100000) :
    Calls Try.prog 35 #[.agg #[.slice A1 n1 c1, .slice A2 n2 c2, .slice A3 n3 c3, .bool hi]] w (TxtRes (fmtT tr) w) := by
  obtain ⟨i0, hi', hz0, hz1, hz2⟩ := info_parts info_u8
  have HE := Lib.hid (And.intro (bl_alloc (Below.refl w.heap.size w) (.cells #[.slice A1 n1 c1, .slice A2 n2 c2, .slice A3 n3 c3, .bool hi] 27)) (Blk.new w 27 #[.slice A1 n1 c1, .slice A2 n2 c2, .slice A3 n3 c3, .bool hi]))
  obtain ⟨wa, hwa⟩ : ∃ wa, w.alloc (.cells #[.slice A1 n1 c1, .slice A2 n2 c2, .slice A3 n3 c3, .bool hi] 27) = wa := ⟨_, rfl⟩
  rw [hwa] at HE
  have H := Lib.hid ((h.below HE.out.1).more HE.out.1.size)
  have HL0 := Lib.hid h.len
  have cA := HE.out.2.cell
  clear h
  by_cases hlong : 200 < n2
  · have d1 : ¬ (n2 : Int) ≤ 200 := by omega
    have d2 : (0 : Int) < (n2 : Int) := by omega
    have HF := Lib.hid (fmt_long (tr := tr) (by rw [HL0.out]; exact hlong))
    have HO0 : Hid (OwnB (wa.alloc (.cells #[] 5)) wa.heap.size (.slice (some ⟨wa.heap.size, 0, none⟩) ([] : List UInt8).length 0) []) := Lib.hid ⟨rfl, .inr ⟨wa.heap.size, 0, #[], rfl, Nat.le_refl _, heap_alloc_new wa _, Nat.le_refl _, Nat.zero_le _, rfl, rfl⟩⟩
    have HBq := Lib.hid (bl_trans HE.out.1 (bl_alloc (Below.refl wa.heap.size wa) (.cells #[] 5)))
    have hcv : (convert 22 9 (.slice (some ⟨wa.heap.size, 0, none⟩) 0 0)).run Try.prog (wa.alloc (.cells #[] 5)) = .ok (str []) (wa.alloc (.cells #[] 5)) := conv_own HO0.out
    go_enter Try.func35, Try.ntmps35
    go_wp2
    try rw [hwa]
    go_loopw [3, 4] (fun v i wr => v = .slice (some ⟨wa.heap.size, 0, none⟩) 0 0 ∧ i = .int .i64 0 ∧ wr = wa.alloc (.cells #[] 5)) (fun _ i _ => 0)
    case atStart => exact ⟨rfl, rfl, rfl⟩
    case round =>
      obtain ⟨rfl, rfl, rfl⟩ := hrel
      have cA := (HE.out.2.alloc (.cells #[] 5)).cell
      go_wp2
      go_ret
      exact ⟨by rw [HF.out]; rfl, HBq.out⟩
  have hs200 : n2 ≤ 200 := by omega
  have d1 : ¬ (200 : Int) < (n2 : Int) := by omega
  have d2 : (n2 : Int) ≤ 200 := by omega
  clear hlong
  go_enter Try.func35, Try.ntmps35
  go_wp2
  try rw [hwa]
  go_loopw [3, 4] (fun v i wr => ∃ (k : Nat) (l : List UInt8) (g c : Nat), k ≤ n2 ∧ i = .int .i64 k ∧ v = .slice (some ⟨g, 0, none⟩) l.length c ∧ l.length ≤ k ∧ Hid ((tr.take k).map chB = l) ∧ Hid ((tr.take k).all okX = true) ∧ Hid (OwnB wr wa.heap.size (.slice (some ⟨g, 0, none⟩) l.length c) l) ∧ Hid (Below wa.heap.size wa wr)) (fun _ i _ => n2 - (intOf i).toNat)
  case atStart => exact ⟨0, [], wa.heap.size, 0, Nat.zero_le _, rfl, rfl, Nat.le_refl _, Lib.hid rfl, Lib.hid rfl, Lib.hid ⟨rfl, .inr ⟨wa.heap.size, 0, #[], rfl, Nat.le_refl _, heap_alloc_new wa _, Nat.le_refl _, Nat.zero_le _, rfl, rfl⟩⟩, Lib.hid (bl_alloc (Below.refl _ _) _)⟩
  case round =>
    obtain ⟨k, l, g, c, hk, rfl, rfl, hlk, HL, HA, HO, HB⟩ := hrel
    clear cA hwa
    have cA := (HE.out.2.below HB.out HE.out.2.lt).cell
    have hw1 : wa.heap.size ≤ wr.heap.size := HB.out.size
    by_cases hkn : k < n2
    · have q2 : (k : Int) < (n2 : Int) := by omega
      obtain ⟨x, hx⟩ := zs_at H.out hkn
      obtain ⟨b, o, rfl, hbl, c0⟩ := (H.out.below HB.out).at_ k x hx
      by_cases hd : x = -1
      · subst hd
        have HN := Lib.hid (map_snoc (c := 46) hx HL.out rfl)
        have HA2 := Lib.hid (all_snoc hx HA.out rfl)
        clear hx
        go_wp2_with (at_builtin; refine wpList_append_own _ rfl (.tmp 26) (.tmp 27) 22 rfl wa.heap.size 5 i0 _ 1 1 Try.underlying22 hi' hz0 hz1 hz2 rfl (by decide) _ l.length (l.map byV) rfl (HO.out.alloc _) ⟨wr.heap.size, 0, none⟩ 1 1 [Value.int .u8 46] rfl rfl (cell_newv_at _ _ _ _ rfl) (by intro u hu; rw [List.mem_singleton.1 hu]; rfl) (by unfold maxLen; omega) (by omega) (by simp; omega) ?_; intro v2 w9 hown2 hgrow2 _; have HO2 := Lib.hid (show OwnB w9 wa.heap.size v2 (l ++ [46]) from OwnB.snoc (hown2)); have HB9 := Lib.hid ((bl_alloc HB.out _).grown hgrow2 (by simp; omega) (fun k e => (World.ownsRow.lt HO.out k e).1)); clear hown2 hgrow2)
        obtain ⟨g2, c2', rfl⟩ := HO2.out.some_ (by simp)
        go_wp2
        go_roundw
        case rel => exact ⟨k + 1, l ++ [46], g2, c2', by omega, by go_num, rfl, by simp; omega, HN, HA2, HO2, HB9⟩
        case measure => simp [intOf]; omega
      have t1 : (x == -1) = false := by simpa using hd
      by_cases hr : 0 ≤ x ∧ x < 5
      · obtain ⟨d, rfl⟩ := Int.eq_ofNat_of_zero_le hr.1
        have hd5 : d < 5 := by omega
        have HN := Lib.hid (map_snoc (c := UInt8.ofNat (48 + d)) hx HL.out (by unfold chB; rw [if_neg hd]; rfl))
        have HA2 := Lib.hid (all_snoc hx HA.out (by unfold okX; simp; omega))
        have HBY := Lib.hid (byV_digit d hd5)
        have g1 : (0 : Int) ≤ (d : Int) := hr.1
        have g2 : (d : Int) < 5 := hr.2
        have kw1 : IntKind.u8.wrap (d : Int) = (d : Int) := by rcases (by omega : d = 0 ∨ d = 1 ∨ d = 2 ∨ d = 3 ∨ d = 4) with rfl | rfl | rfl | rfl | rfl <;> rfl
        have kw2 : IntKind.u8.wrap (48 + (d : Int)) = 48 + (d : Int) := by rcases (by omega : d = 0 ∨ d = 1 ∨ d = 2 ∨ d = 3 ∨ d = 4) with rfl | rfl | rfl | rfl | rfl <;> rfl
        have kw3 : IntKind.i64.wrap (48 + (d : Int)) = 48 + (d : Int) := IntWalk.i64_in _ (by omega)
        clear hx hr hd
        go_wp2_with (at_builtin; refine wpList_append_own _ rfl (.tmp 44) (.tmp 52) 22 rfl wa.heap.size 5 i0 _ 1 1 Try.underlying22 hi' hz0 hz1 hz2 rfl (by decide) _ l.length (l.map byV) rfl (HO.out.alloc _) ⟨wr.heap.size, 0, none⟩ 1 1 [Value.int .u8 (48 + (d : Int))] rfl rfl (cell_newv_at _ _ _ _ rfl) (by intro u hu; rw [List.mem_singleton.1 hu]; rfl) (by unfold maxLen; omega) (by omega) (by simp; omega) ?_; intro v2 w9 hown2 hgrow2 _; have HO2 := Lib.hid (show OwnB w9 wa.heap.size v2 (l ++ [UInt8.ofNat (48 + d)]) from OwnB.snoc (by rw [HBY.out]; exact hown2)); have HB9 := Lib.hid ((bl_alloc HB.out _).grown hgrow2 (by simp; omega) (fun k e => (World.ownsRow.lt HO.out k e).1)); clear hown2 hgrow2)
        obtain ⟨g2', c2', rfl⟩ := HO2.out.some_ (by simp)
        go_wp2
        go_roundw
        case rel => exact ⟨k + 1, l ++ [UInt8.ofNat (48 + d)], g2', c2', by omega, by go_num, rfl, by simp; omega, HN, HA2, HO2, HB9⟩
        case measure => simp [intOf]; omega
      have hbad : okX x = false := by
        unfold okX
        rw [t1]
        simp
        omega
      have HF := Lib.hid (fmt_bad hx hbad)
      clear hx hbad
      by_cases h0 : 0 ≤ x
      · have h5 : ¬ x < 5 := by omega
        clear hr
        go_wp2
        go_ret
        exact ⟨by rw [HF.out]; rfl, bl_trans HE.out.1 HB.out⟩
      · clear hr
        go_wp2
        go_ret
        exact ⟨by rw [HF.out]; rfl, bl_trans HE.out.1 HB.out⟩
    · obtain rfl : k = n2 := by omega
      have hcv := conv_own HO.out
      have HF := Lib.hid (fmt_all (tr := tr) (by rw [HL0.out]; exact hs200) (by have h := HA.out; rwa [List.take_of_length_le (by rw [HL0.out]; exact Nat.le_refl _)] at h))
      have HLL : Hid (tr.map chB = l) := by have h := HL.out; rw [List.take_of_length_le (by rw [HL0.out]; exact Nat.le_refl _)] at h; exact Lib.hid h
      go_wp2
      go_ret
      exact ⟨by rw [HF.out, HLL.out]; rfl, bl_trans HE.out.1 HB.out⟩

end Go.Proofs.Ytjondedkgkohfaa
