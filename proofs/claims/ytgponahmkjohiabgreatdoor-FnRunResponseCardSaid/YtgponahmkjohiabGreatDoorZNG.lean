import Derived.Test.YtgponahmkjohiabGreatDoorZNA
import Derived.Test.YtgponahmkjohiabGreatDoorZND
import Derived.Test.YtgponahmkjohiabGreatDoorZNF
import Derived.LoopTactic
import Derived.Deep.QuietTactic
import Derived.BigQuiet
import Derived.Laws.IdiomStrings
import Derived.Test.YtgponahmkjohiabGreatDoorZNE
namespace Go.Proofs.YtgponahmkjohiabGreatDoor
section
open Go.RowKit
set_option linter.unusedVariables false
theorem OwnZ.setb {w : World} {B : Nat} {v : Value} {zs : List Int} (h : OwnZ w B v zs) {a : Addr} (ha : a.block < B) (u : Value) : OwnZ (w.setCell a u) B v zs := ownsRow_setCell_below h ha u
theorem Blk.four {w : World} {g : Nat} {t : TypeId} {a b c d : Value} (h : Blk w g t #[a, b, c, d]) : w.cell? ⟨g, 0, none⟩ = some a ∧ w.cell? ⟨g, 1, none⟩ = some b ∧ w.cell? ⟨g, 2, none⟩ = some c ∧ w.cell? ⟨g, 3, none⟩ = some d := ⟨h.cell 0, h.cell 1, h.cell 2, h.cell 3⟩
/-- Three slices read as the lists of a run. -/
structure RnAt (w : World) (A1 : Option Addr) (n1 : Nat) (A2 : Option Addr) (n2 : Nat) (A3 : Option Addr) (n3 : Nat) (en tr sw : List Int) : Prop where
  e : Zs w w.heap.size A1 n1 en
  t : Zs w w.heap.size A2 n2 tr
  s : Zs w w.heap.size A3 n3 sw
theorem RnAt.below {w w' : World} {A1 A2 A3 : Option Addr} {n1 n2 n3 : Nat} {en tr sw : List Int} (h : RnAt w A1 n1 A2 n2 A3 n3 en tr sw) (hb : Below w.heap.size w w') : RnAt w' A1 n1 A2 n2 A3 n3 en tr sw :=
  ⟨(h.e.below hb).more hb.size, (h.t.below hb).more hb.size, (h.s.below hb).more hb.size⟩
/-- The copy of a run: three slices of the call's own, each in memory of its own. -/
def RnCopy (en tr sw : List Int) (hi : Bool) (w : World) (e : Ending) (w' : World) : Prop :=
  ∃ (A1 : Option Addr) (c1 : Nat) (A2 : Option Addr) (c2 : Nat) (A3 : Option Addr) (c3 s1 s2 : Nat), e = .returned (.agg #[.slice A1 en.length c1, .slice A2 tr.length c2, .slice A3 sw.length c3, .bool hi]) ∧
    OwnZ w' w.heap.size (.slice A1 en.length c1) en ∧ OwnZ w' s1 (.slice A2 tr.length c2) tr ∧ OwnZ w' s2 (.slice A3 sw.length c3) sw ∧
    (∀ k, (Value.slice A1 en.length c1).ownBlock = some k → k < s1) ∧ (∀ k, (Value.slice A2 tr.length c2).ownBlock = some k → k < s2) ∧ w.heap.size ≤ s1 ∧ (s1 ≤ s2 ∧ s2 ≤ w'.heap.size) ∧ Below w.heap.size w w'
theorem RnCopy.reads {w' : World} {A1 A2 A3 : Option Addr} {c1 c2 c3 B s1 s2 : Nat} {en tr sw : List Int} (h1 : OwnZ w' B (.slice A1 en.length c1) en) (h2 : OwnZ w' s1 (.slice A2 tr.length c2) tr) (h3 : OwnZ w' s2 (.slice A3 sw.length c3) sw) :
    RnAt w' A1 en.length A2 tr.length A3 sw.length en tr sw := ⟨h1.reads, h2.reads, h3.reads⟩
end
section
open Go.RowKit
set_option linter.unusedVariables false
def dropP (en : List Int) (q : Nat) : Bool := en.getD q 0 == -2
set_option maxRecDepth 100000 in
set_option maxHeartbeats 2000000 in
theorem iDropped_is (w : World) (A1 : Option Addr) (n1 c1 : Nat) (A2 : Option Addr) (n2 c2 : Nat) (A3 : Option Addr) (n3 c3 : Nat) (hi : Bool) (en : List Int) (h : Zs w w.heap.size A1 n1 en) (hn : n1 ≤ 1100000) :
    Calls Tryz.prog 24 #[.agg #[.slice A1 n1 c1, .slice A2 n2 c2, .slice A3 n3 c3, .bool hi]] w (ZsRes (placesI (dropP en) n1) w) := by
  go_enter Tryz.func24, Tryz.ntmps24
  go_wp2_with fail
  refine (iPlI_is _ A1 n1 c1 en ((h.below (bl_alloc (Below.refl _ w) _)).more (by simp)) hn 71 #[] (dropP en) (fun _ _ => rfl) (fun W q j hj hbW => ?_)).mono ?_
  · have hd : dropP en q = (j == -2) := by unfold dropP; simp [List.getD, hj]
    rw [hd]
    show Calls _ _ #[.int .i64 (q : Int), .int .i64 j] _ _
    clear hd hj hbW
    go_enter Tryz.func71, Tryz.ntmps71
    go_wp2
    go_ret
    exact ⟨rfl, Below.refl _ _⟩
  rintro e w2 ⟨A3, c3, rfl, ho, hb⟩
  have HO := Lib.hid (show OwnZ w2 w.heap.size _ _ from OwnZ.less ho (by simp))
  have HB := Lib.hid (bl_trans (bl_alloc (Below.refl _ w) _) hb)
  clear ho hb
  go_wp2
  go_ret
  exact ⟨A3, c3, rfl, HO.out, HB.out⟩
theorem OwnZ.kept_dn {w w' : World} {B M : Nat} {v : Value} {zs : List Int} {row : Option Nat} (h : OwnZ w B v zs) (hg : w.grownBy w' row) (hv : ∀ k, v.ownBlock = some k → k < M) (hr : ∀ k, row = some k → M ≤ k) : OwnZ w' B v zs := by
  refine World.ownsRow.kept h hg ?_
  rcases he : v.ownBlock with _ | k
  · exact .inl rfl
  · right
    intro e
    have := hv k he
    have := hr k e.symm
    omega
end
section
open Go.RowKit
set_option linter.unusedVariables false
abbrev str (l : List UInt8) : Value := .string ⟨l.toArray⟩
def okX (x : Int) : Bool := x == -1 || (decide (0 ≤ x) && decide (x < 5))
def chB (x : Int) : UInt8 := if x = -1 then 46 else UInt8.ofNat (48 + x.toNat)
/-- The text of the ticks of a run. -/
def fmtT (tr : List Int) : List UInt8 := if tr.length ≤ 200 ∧ tr.all okX = true then tr.map chB else []
theorem fmt_bad {tr : List Int} {k : Nat} {x : Int} (hx : tr[k]? = some x) (h : okX x = false) : fmtT tr = [] := by
  unfold fmtT
  rw [if_neg]
  rintro ⟨_, h2⟩
  have := List.all_eq_true.1 h2 x (List.mem_of_getElem? hx)
  rw [h] at this
  cases this
theorem fmt_long {tr : List Int} (h : 200 < tr.length) : fmtT tr = [] := by
  unfold fmtT
  rw [if_neg]
  rintro ⟨h1, _⟩
  omega
theorem fmt_all {tr : List Int} (h : tr.length ≤ 200) (h2 : tr.all okX = true) : fmtT tr = tr.map chB := by
  unfold fmtT
  rw [if_pos ⟨h, h2⟩]
theorem map_snoc {tr : List Int} {k : Nat} {x : Int} {l : List UInt8} {c : UInt8} (hx : tr[k]? = some x) (h : (tr.take k).map chB = l) (hc : chB x = c) : (tr.take (k + 1)).map chB = l ++ [c] := by
  obtain ⟨hk, rfl⟩ := List.getElem?_eq_some_iff.1 hx
  rw [List.take_succ_eq_append_getElem hk, List.map_append, h, ← hc]
  rfl
theorem all_snoc {tr : List Int} {k : Nat} {x : Int} (hx : tr[k]? = some x) (h : (tr.take k).all okX = true) (hc : okX x = true) : (tr.take (k + 1)).all okX = true := by
  obtain ⟨hk, rfl⟩ := List.getElem?_eq_some_iff.1 hx
  rw [List.take_succ_eq_append_getElem hk, List.all_append, h]
  simp [hc]
def byV (b : UInt8) : Value := .int .u8 (b.toNat : Int)
/-- The slice is the call's own and holds these bytes. -/
def OwnB (w : World) (B : Nat) (v : Value) (l : List UInt8) : Prop := w.ownsRow B 5 1 v l.length (l.map byV)
theorem OwnB.alloc {w : World} {B : Nat} {v : Value} {l : List UInt8} (h : OwnB w B v l) (o : Obj) : OwnB (w.alloc o) B v l := World.ownsRow.alloc h o
theorem OwnB.snoc {w : World} {B : Nat} {v : Value} {l : List UInt8} {c : UInt8} (h : w.ownsRow B 5 1 v (l.length + 1) (l.map byV ++ [byV c])) : OwnB w B v (l ++ [c]) := by
  unfold OwnB
  rw [List.length_append, List.map_append]
  exact h
theorem OwnB.some_ {w : World} {B : Nat} {v : Value} {l : List UInt8} (h : OwnB w B v l) (hl : 0 < l.length) : ∃ g c, v = .slice (some ⟨g, 0, none⟩) l.length c := by
  rcases h.2 with ⟨e, h0⟩ | ⟨g, cap, cur, e, _⟩
  · omega
  · exact ⟨g, cap, e⟩
theorem OwnB.cell {w : World} {B g c : Nat} {l : List UInt8} (h : OwnB w B (.slice (some ⟨g, 0, none⟩) l.length c) l) (i : Nat) (hi : i < l.length) : w.cell? ⟨g, i, none⟩ = some (.int .u8 (l[i].toNat : Int)) := by
  have := World.ownsRow.cells (g := g) h rfl i (byV l[i]) (by rw [List.getElem?_map, List.getElem?_eq_getElem hi]; rfl)
  have ea : (⟨g, 0, none⟩ : Addr).add i = ⟨g, i, none⟩ := by unfold Addr.add; split <;> simp_all
  rw [ea] at this
  exact this
theorem conv_own {w : World} {B g c : Nat} {l : List UInt8} (h : OwnB w B (.slice (some ⟨g, 0, none⟩) l.length c) l) :
    (convert 22 9 (.slice (some ⟨g, 0, none⟩) l.length c)).run Tryz.prog w = .ok (str l) w := by
  refine run_convert_bytes_back _ _ _ 5 _ _ l Tryz.underlying22 Tryz.underlying5 Tryz.underlying9 ?_
  intro j hj
  have ea : (⟨g, 0, none⟩ : Addr).add j = ⟨g, j, none⟩ := by unfold Addr.add; split <;> simp_all
  rw [ea]
  exact h.cell j hj
theorem cell_newv_at (w : World) (z : Value) (ty : TypeId) (g : Nat) (hg : g = w.heap.size) : ∀ j u, ([z] : List Value)[j]? = some u → (w.alloc (.cells #[z] ty)).cell? ((⟨g, 0, none⟩ : Addr).add j) = some u := by
  subst hg
  intro j u hj
  have ea : (⟨w.heap.size, 0, none⟩ : Addr).add j = ⟨w.heap.size, j, none⟩ := by unfold Addr.add; split <;> simp_all
  rw [ea, (Blk.new w ty #[z]).cell j, ← hj]
  simp
theorem info_u8 : (Tryz.prog.info? 5).map (fun i => (i.zero, i.size, i.bytes)) = some (some (.int .u8 0), 1, 1) := by kernel_rfl
theorem byV_digit (k : Nat) (h : k < 5) : byV (UInt8.ofNat (48 + k)) = .int .u8 (48 + (k : Int)) := by
  rcases (by omega : k = 0 ∨ k = 1 ∨ k = 2 ∨ k = 3 ∨ k = 4) with rfl | rfl | rfl | rfl | rfl <;> rfl
def TxtRes (l : List UInt8) (w : World) (e : Ending) (w' : World) : Prop := e = .returned (str l) ∧ Below w.heap.size w w'
set_option maxRecDepth 100000 in
set_option maxHeartbeats 2000000 in
theorem iFmtT_is (w : World) (A1 : Option Addr) (n1 c1 : Nat) (A2 : Option Addr) (n2 c2 : Nat) (A3 : Option Addr) (n3 c3 : Nat) (hi : Bool) (tr : List Int) (h : Zs w w.heap.size A2 n2 tr) (hn : n2 ≤ 1100000) :
    Calls Tryz.prog 26 #[.agg #[.slice A1 n1 c1, .slice A2 n2 c2, .slice A3 n3 c3, .bool hi]] w (TxtRes (fmtT tr) w) := by
  obtain ⟨i0, hi', hz0, hz1, hz2⟩ := info_parts info_u8
  have HE := Lib.hid (And.intro (bl_alloc (Below.refl w.heap.size w) (.cells #[.slice A1 n1 c1, .slice A2 n2 c2, .slice A3 n3 c3, .bool hi] 29)) (Blk.new w 29 #[.slice A1 n1 c1, .slice A2 n2 c2, .slice A3 n3 c3, .bool hi]))
  have H := Lib.hid h
  have HL0 := Lib.hid h.len
  clear h
  by_cases hlong : 200 < n2
  · have d1 : (200 : Int) < (n2 : Int) := by omega
    have HF := Lib.hid (fmt_long (tr := tr) (by rw [HL0.out]; exact hlong))
    go_enter Tryz.func26, Tryz.ntmps26
    go_wp2
    go_ret
    exact ⟨by rw [HF.out]; rfl, HE.out.1⟩
  have hs200 : n2 ≤ 200 := by omega
  have d1 : ¬ (200 : Int) < (n2 : Int) := by omega
  have d2 : (n2 : Int) ≤ 200 := by omega
  clear hlong
  go_enter Tryz.func26, Tryz.ntmps26
  go_wp2_with (at_make; refine wpList_make_own _ rfl _ _ 22 rfl w.heap.size 5 i0 _ 1 Tryz.underlying22 hi' hz0 hz1 .i64 .i64 _ n2 rfl rfl rfl (by rw [hz2]; omega) (by unfold maxLen; omega) (by simp) ?_; intro w2 hown0 hgrow0; have HO0 := Lib.hid (show OwnB w2 w.heap.size (.slice (some ⟨w.heap.size + 1, 0, none⟩) 0 n2) [] from by have h := hown0; simp only [World.size_alloc] at h; exact h); have HB0 := Lib.hid (HE.out.1.grown hgrow0 (by simp) (fun k e => by cases e)); have cB := (HE.out.2.grown hgrow0 (by intro e; cases e)).cell; clear hown0 hgrow0)
  go_loopw [3, 17] (fun v i wr => ∃ (k : Nat) (l : List UInt8) (g c : Nat), k ≤ n2 ∧ i = .int .i64 k ∧ v = .slice (some ⟨g, 0, none⟩) l.length c ∧ l.length ≤ k ∧ Hid ((tr.take k).map chB = l) ∧ Hid ((tr.take k).all okX = true) ∧ Hid (OwnB wr w.heap.size (.slice (some ⟨g, 0, none⟩) l.length c) l) ∧ Hid (Below w.heap.size w wr)) (fun _ i _ => n2 - (intOf i).toNat)
  case atStart => exact ⟨0, [], w.heap.size + 1, n2, Nat.zero_le _, rfl, rfl, Nat.le_refl _, Lib.hid rfl, Lib.hid rfl, HO0, HB0⟩
  case round =>
    obtain ⟨k, l, g, c, hk, rfl, rfl, hlk, HL, HA, HO, HB⟩ := hrel
    have hw1 : w.heap.size ≤ wr.heap.size := HB.out.size
    by_cases hkn : k < n2
    · have q2 : (k : Int) < (n2 : Int) := by omega
      obtain ⟨x, hx⟩ := zs_at H.out hkn
      obtain ⟨b, o, rfl, hbl, c0⟩ := (H.out.below HB.out).at_ k x hx
      by_cases hd : x = -1
      · subst hd
        have HN := Lib.hid (map_snoc (c := 46) hx HL.out rfl)
        have HA2 := Lib.hid (all_snoc hx HA.out rfl)
        clear hx
        go_wp2_with (at_builtin; refine wpList_append_own _ rfl (.tmp 24) (.tmp 25) 22 rfl w.heap.size 5 i0 _ 1 1 Tryz.underlying22 hi' hz0 hz1 hz2 rfl (by decide) _ l.length (l.map byV) rfl (HO.out.alloc _) ⟨wr.heap.size, 0, none⟩ 1 1 [Value.int .u8 46] rfl rfl (cell_newv_at _ _ _ _ rfl) (by intro u hu; rw [List.mem_singleton.1 hu]; rfl) (by unfold maxLen; omega) (by omega) (by simp; omega) ?_; intro v2 w9 hown2 hgrow2 _; have HO2 := Lib.hid (show OwnB w9 w.heap.size v2 (l ++ [46]) from OwnB.snoc (hown2)); have HB9 := Lib.hid ((bl_alloc HB.out _).grown hgrow2 (by simp; omega) (fun k e => (World.ownsRow.lt HO.out k e).1)); clear hown2 hgrow2)
        obtain ⟨g2, c2', rfl⟩ := HO2.out.some_ (by simp)
        go_wp2
        go_roundw
        case rel => exact ⟨k + 1, l ++ [46], g2, c2', by omega, by go_num, rfl, by simp; omega, HN, HA2, HO2, HB9⟩
        case measure => simp [intOf]; omega
      have t1 : (x == -1) = false := by simpa using hd
      by_cases hr : 0 ≤ x ∧ x < 5
      · obtain ⟨d, rfl⟩ := Int.eq_ofNat_of_zero_le hr.1
        have hd5 : d < 5 := by omega
        have HN := Lib.hid (map_snoc (c := UInt8.ofNat (48 + d)) hx HL.out (by unfold chB; rw [if_neg hd]; rfl))
        have HA2 := Lib.hid (all_snoc hx HA.out (by unfold okX; simp; omega))
        have HBY := Lib.hid (byV_digit d hd5)
        have g1 : (0 : Int) ≤ (d : Int) := hr.1
        have g2 : (d : Int) < 5 := hr.2
        have kw1 : IntKind.u8.wrap (d : Int) = (d : Int) := by rcases (by omega : d = 0 ∨ d = 1 ∨ d = 2 ∨ d = 3 ∨ d = 4) with rfl | rfl | rfl | rfl | rfl <;> rfl
        have kw2 : IntKind.u8.wrap (48 + (d : Int)) = 48 + (d : Int) := by rcases (by omega : d = 0 ∨ d = 1 ∨ d = 2 ∨ d = 3 ∨ d = 4) with rfl | rfl | rfl | rfl | rfl <;> rfl
        have kw3 : IntKind.i64.wrap (48 + (d : Int)) = 48 + (d : Int) := IntWalk.i64_in _ (by omega)
        clear hx hr hd
        go_wp2_with (at_builtin; refine wpList_append_own _ rfl (.tmp 34) (.tmp 38) 22 rfl w.heap.size 5 i0 _ 1 1 Tryz.underlying22 hi' hz0 hz1 hz2 rfl (by decide) _ l.length (l.map byV) rfl (HO.out.alloc _) ⟨wr.heap.size, 0, none⟩ 1 1 [Value.int .u8 (48 + (d : Int))] rfl rfl (cell_newv_at _ _ _ _ rfl) (by intro u hu; rw [List.mem_singleton.1 hu]; rfl) (by unfold maxLen; omega) (by omega) (by simp; omega) ?_; intro v2 w9 hown2 hgrow2 _; have HO2 := Lib.hid (show OwnB w9 w.heap.size v2 (l ++ [UInt8.ofNat (48 + d)]) from OwnB.snoc (by rw [HBY.out]; exact hown2)); have HB9 := Lib.hid ((bl_alloc HB.out _).grown hgrow2 (by simp; omega) (fun k e => (World.ownsRow.lt HO.out k e).1)); clear hown2 hgrow2)
        obtain ⟨g2', c2', rfl⟩ := HO2.out.some_ (by simp)
        go_wp2
        go_roundw
        case rel => exact ⟨k + 1, l ++ [UInt8.ofNat (48 + d)], g2', c2', by omega, by go_num, rfl, by simp; omega, HN, HA2, HO2, HB9⟩
        case measure => simp [intOf]; omega
      have hbad : okX x = false := by
        unfold okX
        rw [t1]
        simp
        omega
      have HF := Lib.hid (fmt_bad hx hbad)
      clear hx hbad
      by_cases h0 : 0 ≤ x
      · have h5 : ¬ x < 5 := by omega
        clear hr
        go_wp2
        go_ret
        exact ⟨by rw [HF.out]; rfl, HB.out⟩
      · clear hr
        go_wp2
        go_ret
        exact ⟨by rw [HF.out]; rfl, HB.out⟩
    · obtain rfl : k = n2 := by omega
      have hcv := conv_own HO.out
      have HF := Lib.hid (fmt_all (tr := tr) (by rw [HL0.out]; exact hs200) (by have h := HA.out; rwa [List.take_of_length_le (by rw [HL0.out]; exact Nat.le_refl _)] at h))
      have HLL : Hid (tr.map chB = l) := by have h := HL.out; rw [List.take_of_length_le (by rw [HL0.out]; exact Nat.le_refl _)] at h; exact Lib.hid h
      go_wp2
      go_ret
      exact ⟨by rw [HF.out, HLL.out]; rfl, HB.out⟩
end
section
open Go.RowKit
set_option linter.unusedVariables false
theorem take_eq2 {xs ys : List Int} {k : Nat} {x : Int} (h : xs.take k = ys.take k) (hx : xs[k]? = some x) (hy : ys[k]? = some x) : xs.take (k + 1) = ys.take (k + 1) := by
  obtain ⟨h1, e1⟩ := List.getElem?_eq_some_iff.1 hx
  obtain ⟨h2, e2⟩ := List.getElem?_eq_some_iff.1 hy
  rw [List.take_succ_eq_append_getElem h1, List.take_succ_eq_append_getElem h2, h, e1, e2]
set_option maxHeartbeats 1000000 in
theorem iEq_is (w : World) (A A' : Option Addr) (n c n' c' : Nat) (xs ys : List Int) (h : Zs w w.heap.size A n xs) (h' : Zs w w.heap.size A' n' ys) (hn : n ≤ 1100000) (hn' : n' ≤ 1100000) (b : Bool) (hb : decide (xs = ys) = b) :
    Calls Tryz.prog 52 #[.slice A n c, .slice A' n' c'] w fun e w' => e = .returned (.bool b) ∧ Below w.heap.size w w' := by
  have H := Lib.hid h
  have H' := Lib.hid h'
  have L := h.len
  have L' := h'.len
  clear h h'
  by_cases hlen : n = n'
  · subst hlen
    have HL := Lib.hid L
    have HL' := Lib.hid L'
    have HBV := Lib.hid hb
    clear L L' hb
    go_enter Tryz.func52, Tryz.ntmps52
    go_wp2
    go_loopw [13] (fun i wr => ∃ k : Nat, k ≤ n ∧ i = .int .i64 k ∧ Hid (xs.take k = ys.take k) ∧ Hid (Below w.heap.size w wr)) (fun i _ => n - (intOf i).toNat)
    case atStart => exact ⟨0, Nat.zero_le _, rfl, Lib.hid rfl, Lib.hid (Below.refl _ _)⟩
    case round =>
      obtain ⟨k, hk, rfl, HT, HB⟩ := hrel
      by_cases hlt : k < n
      · obtain ⟨x, hx⟩ := zs_at H.out hlt
        obtain ⟨y, hy⟩ := zs_at H'.out hlt
        obtain ⟨p, o, rfl, hbl, c0⟩ := (H.out.below HB.out).at_ k x hx
        obtain ⟨p', o', rfl, hbl', d0⟩ := (H'.out.below HB.out).at_ k y hy
        have i1 : (0 : Int) ≤ (k : Int) := by omega
        have i2 : (k : Int) < (n : Int) := by omega
        by_cases hxy : x = y
        · subst hxy
          have HT2 := Lib.hid (take_eq2 HT.out hx hy)
          clear hx hy
          go_wp2
          go_quiet (fail)
          go_wp2
          go_roundw
          case rel => exact ⟨k + 1, by omega, by go_num, HT2, Lib.hid (bl_drewN HB.out _)⟩
          case measure => simp [intOf]; omega
        · have t1 : (x == y) = false := by simpa using hxy
          have t2 : (x != y) = true := by simpa using hxy
          obtain rfl : b = false := by
            rw [← HBV.out]
            refine decide_eq_false fun e => hxy ?_
            rw [e, hy] at hx
            injection hx with hx
            exact hx.symm
          clear hx hy
          go_wp2
          go_quiet (fail)
          go_wp2
          go_ret
          exact ⟨rfl, bl_drewN HB.out _⟩
      · obtain rfl : k = n := by omega
        obtain rfl : b = true := by
          rw [← HBV.out]
          refine decide_eq_true ?_
          have h := HT.out
          rwa [List.take_of_length_le (by rw [HL.out]; exact Nat.le_refl _), List.take_of_length_le (by rw [HL'.out]; exact Nat.le_refl _)] at h
        go_wp2
        go_ret
        exact ⟨rfl, HB.out⟩
  · obtain rfl : b = false := by
      rw [← hb]
      refine decide_eq_false fun e => hlen ?_
      rw [← L, ← L', e]
    have t1 : ((n : Int) == (n' : Int)) = false := by rw [beq_eq_false_iff_ne]; omega
    have t2 : ((n : Int) != (n' : Int)) = true := by rw [bne_iff_ne]; omega
    have t3 : ¬ (n : Int) = (n' : Int) := by omega
    clear L L'
    go_enter Tryz.func52, Tryz.ntmps52
    go_wp2
    go_ret
    exact ⟨rfl, Below.refl _ _⟩
def sameR (en tr sw : List Int) (hi : Bool) (en' tr' sw' : List Int) (hj : Bool) : Bool := decide (en = en') && decide (tr = tr') && decide (sw = sw') && (hi == hj)
theorem iSame_is (w : World) (A1 : Option Addr) (n1 c1 : Nat) (A2 : Option Addr) (n2 c2 : Nat) (A3 : Option Addr) (n3 c3 : Nat) (hi : Bool) (en tr sw : List Int)
    (X1 : Option Addr) (k1 d1 : Nat) (X2 : Option Addr) (k2 d2 : Nat) (X3 : Option Addr) (k3 d3 : Nat) (hj : Bool) (en' tr' sw' : List Int)
    (h : RnAt w A1 n1 A2 n2 A3 n3 en tr sw) (h' : RnAt w X1 k1 X2 k2 X3 k3 en' tr' sw') (m1 : n1 ≤ 1100000) (m2 : n2 ≤ 1100000) (m3 : n3 ≤ 1100000) (q1 : k1 ≤ 1100000) (q2 : k2 ≤ 1100000) (q3 : k3 ≤ 1100000)
    (b : Bool) (hb : sameR en tr sw hi en' tr' sw' hj = b) :
    Calls Tryz.prog 15 #[.agg #[.slice A1 n1 c1, .slice A2 n2 c2, .slice A3 n3 c3, .bool hi], .agg #[.slice X1 k1 d1, .slice X2 k2 d2, .slice X3 k3 d3, .bool hj]] w fun e w' => e = .returned (.bool b) ∧ Below w.heap.size w w' := by
  have H := Lib.hid h
  have H' := Lib.hid h'
  clear h h'
  obtain ⟨b1, e1⟩ : ∃ b1, decide (en = en') = b1 := ⟨_, rfl⟩
  obtain ⟨b2, e2⟩ : ∃ b2, decide (tr = tr') = b2 := ⟨_, rfl⟩
  obtain ⟨b3, e3⟩ : ∃ b3, decide (sw = sw') = b3 := ⟨_, rfl⟩
  obtain rfl : b = (b1 && b2 && b3 && (hi == hj)) := by rw [← hb, ← e1, ← e2, ← e3]; rfl
  clear hb
  have HE1 := Lib.hid e1
  have HE2 := Lib.hid e2
  have HE3 := Lib.hid e3
  clear e1 e2 e3
  go_enter Tryz.func15, Tryz.ntmps15
  go_wp2_with fail
  refine (iEq_is _ A1 X1 n1 c1 k1 d1 _ _ (H.out.below (bl_alloc (bl_alloc (Below.refl _ w) _) _)).e (H'.out.below (bl_alloc (bl_alloc (Below.refl _ w) _) _)).e m1 q1 b1 HE1.out).mono ?_
  rintro e w1 ⟨rfl, hb⟩
  have HB1 := Lib.hid (bl_trans (bl_alloc (bl_alloc (Below.refl _ w) _) _) hb)
  have bA1 := Lib.hid (((Blk.new w 29 #[.slice A1 n1 c1, .slice A2 n2 c2, .slice A3 n3 c3, .bool hi]).alloc _).below hb (by simp <;> omega))
  have bX1 : Hid (Blk w1 (w.heap.size + 1) 29 #[.slice X1 k1 d1, .slice X2 k2 d2, .slice X3 k3 d3, .bool hj]) := by
    refine Lib.hid (Blk.below ?_ hb (by simp))
    have h := Blk.new (w.alloc (.cells #[.slice A1 n1 c1, .slice A2 n2 c2, .slice A3 n3 c3, .bool hi] 29)) 29 #[.slice X1 k1 d1, .slice X2 k2 d2, .slice X3 k3 d3, .bool hj]
    simpa using h
  clear hb
  have cA := bA1.out.cell
  have cX := bX1.out.cell
  cases b1
  · go_wp2
    go_ret
    exact ⟨by simp, HB1.out⟩
  go_wp2_with fail
  refine (iEq_is _ A2 X2 n2 c2 k2 d2 _ _ (H.out.below HB1.out).t (H'.out.below HB1.out).t m2 q2 b2 HE2.out).mono ?_
  rintro e w2 ⟨rfl, hb⟩
  have HB2 := Lib.hid (bl_trans HB1.out hb)
  have bA2 := Lib.hid (bA1.out.below hb bA1.out.lt)
  have bX2 := Lib.hid (bX1.out.below hb bX1.out.lt)
  clear hb cA cX bA1 bX1
  have cA := bA2.out.cell
  have cX := bX2.out.cell
  cases b2
  · go_wp2
    go_ret
    exact ⟨by simp, HB2.out⟩
  go_wp2_with fail
  refine (iEq_is _ A3 X3 n3 c3 k3 d3 _ _ (H.out.below HB2.out).s (H'.out.below HB2.out).s m3 q3 b3 HE3.out).mono ?_
  rintro e w3 ⟨rfl, hb⟩
  have HB3 := Lib.hid (bl_trans HB2.out hb)
  have bA3 := Lib.hid (bA2.out.below hb bA2.out.lt)
  have bX3 := Lib.hid (bX2.out.below hb bX2.out.lt)
  clear hb cA cX bA2 bX2
  have cA := bA3.out.cell
  have cX := bX3.out.cell
  cases b3
  · go_wp2
    go_ret
    exact ⟨by simp, HB3.out⟩
  go_wp2
  go_ret
  exact ⟨by simp, HB3.out⟩
end
section
open Go.RowKit
set_option linter.unusedVariables false
/-- At how many places a number stands. -/
def ranZ (z : Int) (l : List Int) : Nat := (l.filter (fun x => x == z)).length
theorem ran_yes {z : Int} {l : List Int} {k m : Nat} (hx : l[k]? = some z) (h : ranZ z (l.take k) = m) : ranZ z (l.take (k + 1)) = m + 1 := by
  obtain ⟨hk, rfl⟩ := List.getElem?_eq_some_iff.1 hx
  rw [List.take_succ_eq_append_getElem hk, ranZ, List.filter_append, List.length_append]
  simp
  exact h
theorem ran_no {z x : Int} {l : List Int} {k m : Nat} (hx : l[k]? = some x) (hne : (x == z) = false) (h : ranZ z (l.take k) = m) : ranZ z (l.take (k + 1)) = m := by
  obtain ⟨hk, rfl⟩ := List.getElem?_eq_some_iff.1 hx
  rw [List.take_succ_eq_append_getElem hk, ranZ, List.filter_append, List.length_append]
  simp [hne]
  exact h
def RanRes (z : Int) (tr : List Int) (w : World) (e : Ending) (w' : World) : Prop := e = .returned (.int .i64 (ranZ z tr : Nat)) ∧ Below w.heap.size w w'
set_option maxHeartbeats 1000000 in
theorem iRan_is (w : World) (A1 : Option Addr) (n1 c1 : Nat) (A2 : Option Addr) (n2 c2 : Nat) (A3 : Option Addr) (n3 c3 : Nat) (hi : Bool) (tr : List Int) (h : Zs w w.heap.size A2 n2 tr) (hn : n2 ≤ 1100000) (z : Int) :
    Calls Tryz.prog 25 #[.agg #[.slice A1 n1 c1, .slice A2 n2 c2, .slice A3 n3 c3, .bool hi], .int .i64 z] w (RanRes z tr w) := by
  have H := Lib.hid h
  have HL := Lib.hid h.len
  clear h
  go_enter Tryz.func25, Tryz.ntmps25
  go_wp2
  go_loop [5, 11] (fun s i => ∃ k m : Nat, k ≤ n2 ∧ i = .int .i64 k ∧ s = .int .i64 m ∧ m ≤ k ∧ Hid (ranZ z (tr.take k) = m)) (fun _ i => n2 - (intOf i).toNat)
  case atStart => exact ⟨0, 0, Nat.zero_le _, rfl, rfl, Nat.le_refl _, Lib.hid rfl⟩
  case round =>
    obtain ⟨k, m, hk, rfl, rfl, hmk, HM⟩ := hrel
    by_cases hlt : k < n2
    · have q2 : (k : Int) < (n2 : Int) := by omega
      obtain ⟨x, hx⟩ := zs_at H.out hlt
      obtain ⟨b, o, rfl, hbl, c0⟩ := H.out.at_ k x hx
      have c1 := ((bl_alloc (Below.refl w.heap.size w) (.cells #[.slice A1 n1 c1, .slice (some ⟨b, o, none⟩) n2 c2, .slice A3 n3 c3, .bool hi] 29)).cell (p := ⟨b, o + k, none⟩) hbl).trans c0
      by_cases hxz : x = z
      · subst hxz
        have HN := Lib.hid (ran_yes hx HM.out)
        go_wp2
        go_round
        case rel => exact ⟨k + 1, m + 1, by omega, by go_num, by go_num, by omega, HN⟩
        case measure => simp [intOf]; omega
      · have tz : (x == z) = false := by simpa using hxz
        have HN := Lib.hid (ran_no hx tz HM.out)
        go_wp2
        go_round
        case rel => exact ⟨k + 1, m, by omega, by go_num, rfl, by omega, HN⟩
        case measure => simp [intOf]; omega
    · obtain rfl : k = n2 := by omega
      go_wp2
      go_ret
      refine ⟨?_, bl_alloc (Below.refl _ w) _⟩
      have h := HM.out
      rw [List.take_of_length_le (by rw [HL.out]; exact Nat.le_refl _)] at h
      rw [h]
      rfl
end
section
open Go.RowKit
set_option linter.unusedVariables false
def missX (x z : Int) (n : Nat) : Bool := if x = -1 then decide (z ≤ (n : Int)) else decide (z < x)
def missB (ts : List Tk) (js : List Jb) (en : List Int) (n : Nat) (q : Nat) : Bool := missX (en.getD q 0) (dueJ ts (js.getD q ⟨0, 0, 0⟩)).2 n
/-- The places of the jobs that are late. -/
def missV (ts : List Tk) (js : List Jb) (en : List Int) (n : Nat) : List Int := if jobsB ts js = true ∧ en.length = js.length then placesI (missB ts js en n) js.length else []
theorem due_ok {ts : List Tk} {js : List Jb} (h : jobsB ts js = true) {j : Jb} (hj : j ∈ js) : dueJ ts j = (true, j.tm + (tkOf ts j.ta).du) := by
  unfold dueJ
  rw [jobs_set h, jobs_job h hj]
  rfl
set_option maxRecDepth 100000 in
set_option maxHeartbeats 2000000 in
theorem iMissClo_is (W : World) (g1 g2 : Nat) (A : Option Addr) (n c : Nat) (ts : List Tk) (h : Tks W W.heap.size A n ts) (hn : n ≤ 1048576) (A1 : Option Addr) (n1 c1 : Nat) (en : List Int) (he : Zs W W.heap.size A1 n1 en) (A2 : Option Addr) (n2 c2 : Nat) (hi : Value) (A3 : Value)
    (h1 : Blk W g1 23 #[.slice A n c]) (h2 : Blk W g2 29 #[.slice A1 n1 c1, .slice A2 n2 c2, A3, hi]) (q : Nat) (j : Jb) (x : Int) (hx : en[q]? = some x) (z : Int) (hz : dueJ ts j = (true, z)) :
    Calls Tryz.prog 60 #[.int .i64 (q : Int), j.val, .pointer (some ⟨g1, 0, none⟩), .pointer (some ⟨g2, 0, none⟩)] W fun e W' => e = .returned (.bool (missX x z n2)) ∧ Below W.heap.size W W' := by
  obtain ⟨ta, tm, ne⟩ := j
  have HZ := Lib.hid hz
  have hq : q < n1 := by rw [← he.len]; exact (List.getElem?_eq_some_iff.1 hx).1
  have q2 : (q : Int) < (n1 : Int) := by omega
  have q1 : (0 : Int) ≤ (q : Int) := by omega
  obtain ⟨b, o, rfl, hbl, c0⟩ := he.at_ q x hx
  have HBJ := Lib.hid (bl_alloc (Below.refl W.heap.size W) (.cells #[.int .i64 ta, .int .i64 tm, .int .i64 ne] 46))
  have cJ := (Blk.new W 46 #[.int .i64 ta, .int .i64 tm, .int .i64 ne]).cell
  have cL := (h1.alloc (.cells #[.int .i64 ta, .int .i64 tm, .int .i64 ne] 46)).cell
  have HX := Lib.hid (iDueAt_is _ A n c ts ((h.below HBJ.out).more HBJ.out.size) hn ⟨ta, tm, ne⟩ true z hz)
  have HR := Lib.hid h2
  have HC := Lib.hid c0
  have hbl' := hbl
  unfold Jb.val
  dsimp only
  clear hz h he h1 h2 hx c0
  go_enter Tryz.func60, Tryz.ntmps60
  go_wp2_with fail
  refine HX.out.mono ?_
  rintro e w1 ⟨rfl, hb⟩
  have HB := Lib.hid (bl_trans HBJ.out hb)
  have cR := (HR.out.below HB.out HR.out.lt).cell
  have c0 := (HB.out.cell (p := ⟨b, o + q, none⟩) hbl').trans HC.out
  clear hb cJ cL
  by_cases hx1 : x = -1
  · subst hx1
    go_wp2
    go_ret
    exact ⟨rfl, HB.out⟩
  · have t1 : (x == -1) = false := by simpa using hx1
    have HE := Lib.hid (show missX x z n2 = decide (z < x) by unfold missX; rw [if_neg hx1])
    clear hx1
    go_wp2
    go_ret
    exact ⟨by rw [HE.out]; rfl, HB.out⟩
theorem miss_no {ts : List Tk} {js : List Jb} {en : List Int} {n : Nat} (h : ¬ (jobsB ts js = true ∧ en.length = js.length)) : missV ts js en n = [] := by unfold missV; rw [if_neg h]
set_option maxRecDepth 100000 in
set_option maxHeartbeats 4000000 in
theorem iMiss_is (w : World) (A : Option Addr) (n c : Nat) (ts : List Tk) (h : Tks w w.heap.size A n ts) (hn : n ≤ 1048576) (Aj : Option Addr) (m cj : Nat) (js : List Jb) (hj : Jbs w w.heap.size Aj m js) (A1 : Option Addr) (n1 c1 : Nat) (A2 : Option Addr) (n2 c2 : Nat) (A3 : Option Addr) (n3 c3 : Nat) (hi : Bool) (en : List Int) (he : Zs w w.heap.size A1 n1 en) (us : List Int) (hu : missV ts js en n2 = us) :
    Calls Tryz.prog 18 #[.slice A n c, .slice Aj m cj, .agg #[.slice A1 n1 c1, .slice A2 n2 c2, .slice A3 n3 c3, .bool hi]] w (ZsRes us w) := by
  have HB0 := Lib.hid (bl_alloc (bl_alloc (Below.refl w.heap.size w) (.cells #[.slice A n c] 23)) (.cells #[.slice A1 n1 c1, .slice A2 n2 c2, .slice A3 n3 c3, .bool hi] 29))
  have bL := Lib.hid ((Blk.new w 23 #[.slice A n c]).alloc (.cells #[.slice A1 n1 c1, .slice A2 n2 c2, .slice A3 n3 c3, .bool hi] 29))
  have bR : Hid (Blk ((w.alloc (.cells #[.slice A n c] 23)).alloc (.cells #[.slice A1 n1 c1, .slice A2 n2 c2, .slice A3 n3 c3, .bool hi] 29)) (w.heap.size + 1) 29 #[.slice A1 n1 c1, .slice A2 n2 c2, .slice A3 n3 c3, .bool hi]) := by
    have h := Blk.new (w.alloc (.cells #[.slice A n c] 23)) 29 #[.slice A1 n1 c1, .slice A2 n2 c2, .slice A3 n3 c3, .bool hi]
    exact Lib.hid (by simpa using h)
  have H := Lib.hid ((h.below HB0.out).more HB0.out.size)
  have J := Lib.hid ((hj.below HB0.out).more HB0.out.size)
  have E := Lib.hid ((he.below HB0.out).more HB0.out.size)
  have HM := Lib.hid hj.len
  have HEL := Lib.hid he.len
  have HU := Lib.hid hu
  have cL := bL.out.cell
  clear h hj he hu
  obtain ⟨b, hjb⟩ : ∃ b, jobsB ts js = b := ⟨_, rfl⟩
  have HX := Lib.hid (iJobs_is _ A n c ts H.out hn Aj m cj js J.out b hjb)
  cases b
  · obtain rfl : us = [] := by rw [← HU.out]; exact miss_no (fun h => by rw [hjb] at h; cases h.1)
    clear hjb
    go_enter Tryz.func18, Tryz.ntmps18
    go_wp2_with fail
    refine HX.out.mono ?_
    rintro e w1 ⟨rfl, hb⟩
    have HB1 := Lib.hid (bl_trans HB0.out hb)
    clear hb
    go_wp2
    go_ret
    exact ⟨none, 0, rfl, ⟨rfl, .inl ⟨rfl, rfl⟩⟩, HB1.out⟩
  by_cases hne : n1 = m
  case neg =>
    obtain rfl : us = [] := by rw [← HU.out]; exact miss_no (fun h => by have := h.2; rw [HM.out, HEL.out] at this; exact hne this)
    have t1 : ((n1 : Int) == (m : Int)) = false := by rw [beq_eq_false_iff_ne]; omega
    have t2 : ((n1 : Int) != (m : Int)) = true := by rw [bne_iff_ne]; omega
    have t3 : ¬ (n1 : Int) = (m : Int) := by omega
    clear hjb
    go_enter Tryz.func18, Tryz.ntmps18
    go_wp2_with fail
    refine HX.out.mono ?_
    rintro e w1 ⟨rfl, hb⟩
    have HB1 := Lib.hid (bl_trans HB0.out hb)
    have cR := (bR.out.below hb (by simp)).cell
    clear hb
    go_wp2
    go_ret
    exact ⟨none, 0, rfl, ⟨rfl, .inl ⟨rfl, rfl⟩⟩, HB1.out⟩
  subst hne
  obtain rfl : us = placesI (missB ts js en n2) n1 := by
    rw [← HU.out]
    unfold missV
    rw [if_pos ⟨hjb, by rw [HM.out, HEL.out]⟩, HM.out]
  have hm60 : n1 ≤ 60 := by have := jobs_len hjb; rw [HM.out] at this; exact this
  have HJB := Lib.hid hjb
  clear hjb
  go_enter Tryz.func18, Tryz.ntmps18
  go_wp2_with fail
  refine HX.out.mono ?_
  rintro e w1 ⟨rfl, hb⟩
  have HB1 := Lib.hid (bl_trans HB0.out hb)
  have bL1 := Lib.hid (bL.out.below hb (by simp <;> omega))
  have bR1 := Lib.hid (bR.out.below hb (by simp))
  have H1 := Lib.hid ((H.out.below hb).more hb.size)
  have J1 := Lib.hid ((J.out.below hb).more hb.size)
  have E1 := Lib.hid ((E.out.below hb).more hb.size)
  have cR := bR1.out.cell
  clear hb HX cL
  go_wp2_with fail
  refine (iPlJ_is _ Aj n1 cj js J1.out (by omega) 60 #[.pointer (some ⟨w.heap.size, 0, none⟩), .pointer (some ⟨w.heap.size + 1, 0, none⟩)] (missB ts js en n2) (fun _ _ => rfl) (fun W q j hj hbW => ?_)).mono ?_
  · have hd : js.getD q ⟨0, 0, 0⟩ = j := by simp [List.getD, hj]
    have hqk : q < en.length := by rw [HEL.out, ← HM.out]; exact (List.getElem?_eq_some_iff.1 hj).1
    have hx : en[q]? = some (en[q]'hqk) := List.getElem?_eq_getElem hqk
    have hxd : en.getD q 0 = en[q]'hqk := by simp [List.getD, hx]
    have := iMissClo_is W w.heap.size (w.heap.size + 1) A n c ts ((H1.out.below hbW).more hbW.size) hn A1 n1 c1 en ((E1.out.below hbW).more hbW.size) A2 n2 c2 _ _ (bL1.out.below hbW bL1.out.lt) (bR1.out.below hbW bR1.out.lt) q j _ hx _ (due_ok HJB.out (List.mem_of_getElem? hj))
    unfold missB
    rw [hd, hxd, due_ok HJB.out (List.mem_of_getElem? hj)]
    exact this
  rintro e w2 ⟨A4, c4, rfl, ho, hb⟩
  have HB2 := Lib.hid (bl_trans HB1.out hb)
  have HO := Lib.hid (show OwnZ w2 w.heap.size _ _ from OwnZ.less ho HB1.out.size)
  clear ho hb
  go_wp2
  go_ret
  exact ⟨A4, c4, rfl, HO.out, HB2.out⟩
end
end Go.Proofs.YtgponahmkjohiabGreatDoor
