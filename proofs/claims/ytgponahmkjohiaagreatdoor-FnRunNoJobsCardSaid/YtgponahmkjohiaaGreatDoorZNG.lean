import Derived.Test.YtgponahmkjohiaaGreatDoorZNA
import Derived.Test.YtgponahmkjohiaaGreatDoorZND
import Derived.Test.YtgponahmkjohiaaGreatDoorZNF
import Derived.LoopTactic
import Derived.Deep.QuietTactic
import Derived.BigQuiet
import Derived.Laws.IdiomStrings
import Derived.Test.YtgponahmkjohiaaGreatDoorZNE
namespace Go.Proofs.YtgponahmkjohiaaGreatDoor
section
open Go.RowKit
set_option linter.unusedVariables false
theorem OwnZ.setb {w : World} {B : Nat} {v : Value} {zs : List Int} (h : OwnZ w B v zs) {a : Addr} (ha : a.block < B) (u : Value) : OwnZ (w.setCell a u) B v zs := ownsRow_setCell_below h ha u
theorem Blk.four {w : World} {g : Nat} {t : TypeId} {a b c d : Value} (h : Blk w g t #[a, b, c, d]) : w.cell? ⟨g, 0, none⟩ = some a ∧ w.cell? ⟨g, 1, none⟩ = some b ∧ w.cell? ⟨g, 2, none⟩ = some c ∧ w.cell? ⟨g, 3, none⟩ = some d := ⟨h.cell 0, h.cell 1, h.cell 2, h.cell 3⟩
/-- Three slices read as the lists of a run. -/
structure RnAt (w : World) (A1 : Option Addr) (n1 : Nat) (A2 : Option Addr) (n2 : Nat) (A3 : Option Addr) (n3 : Nat) (en tr sw : List Int) : Prop where
  e : Zs w w.heap.size A1 n1 en
  t : Zs w w.heap.size A2 n2 tr
  s : Zs w w.heap.size A3 n3 sw
theorem RnAt.below {w w' : World} {A1 A2 A3 : Option Addr} {n1 n2 n3 : Nat} {en tr sw : List Int} (h : RnAt w A1 n1 A2 n2 A3 n3 en tr sw) (hb : Below w.heap.size w w') : RnAt w' A1 n1 A2 n2 A3 n3 en tr sw :=
  ⟨(h.e.below hb).more hb.size, (h.t.below hb).more hb.size, (h.s.below hb).more hb.size⟩
/-- The copy of a run: three slices of the call's own, each in memory of its own. -/
def RnCopy (en tr sw : List Int) (hi : Bool) (w : World) (e : Ending) (w' : World) : Prop :=
  ∃ (A1 : Option Addr) (c1 : Nat) (A2 : Option Addr) (c2 : Nat) (A3 : Option Addr) (c3 s1 s2 : Nat), e = .returned (.agg #[.slice A1 en.length c1, .slice A2 tr.length c2, .slice A3 sw.length c3, .bool hi]) ∧
    OwnZ w' w.heap.size (.slice A1 en.length c1) en ∧ OwnZ w' s1 (.slice A2 tr.length c2) tr ∧ OwnZ w' s2 (.slice A3 sw.length c3) sw ∧
    (∀ k, (Value.slice A1 en.length c1).ownBlock = some k → k < s1) ∧ (∀ k, (Value.slice A2 tr.length c2).ownBlock = some k → k < s2) ∧ w.heap.size ≤ s1 ∧ (s1 ≤ s2 ∧ s2 ≤ w'.heap.size) ∧ Below w.heap.size w w'
theorem RnCopy.reads {w' : World} {A1 A2 A3 : Option Addr} {c1 c2 c3 B s1 s2 : Nat} {en tr sw : List Int} (h1 : OwnZ w' B (.slice A1 en.length c1) en) (h2 : OwnZ w' s1 (.slice A2 tr.length c2) tr) (h3 : OwnZ w' s2 (.slice A3 sw.length c3) sw) :
    RnAt w' A1 en.length A2 tr.length A3 sw.length en tr sw := ⟨h1.reads, h2.reads, h3.reads⟩
end
section
open Go.RowKit
set_option linter.unusedVariables false
theorem OwnZ.kept_dn {w w' : World} {B M : Nat} {v : Value} {zs : List Int} {row : Option Nat} (h : OwnZ w B v zs) (hg : w.grownBy w' row) (hv : ∀ k, v.ownBlock = some k → k < M) (hr : ∀ k, row = some k → M ≤ k) : OwnZ w' B v zs := by
  refine World.ownsRow.kept h hg ?_
  rcases he : v.ownBlock with _ | k
  · exact .inl rfl
  · right
    intro e
    have := hv k he
    have := hr k e.symm
    omega
end
section
open Go.RowKit
set_option linter.unusedVariables false
def byV (b : UInt8) : Value := .int .u8 (b.toNat : Int)
/-- The slice is the call's own and holds these bytes. -/
def OwnB (w : World) (B : Nat) (v : Value) (l : List UInt8) : Prop := w.ownsRow B 5 1 v l.length (l.map byV)
theorem OwnB.alloc {w : World} {B : Nat} {v : Value} {l : List UInt8} (h : OwnB w B v l) (o : Obj) : OwnB (w.alloc o) B v l := World.ownsRow.alloc h o
theorem OwnB.snoc {w : World} {B : Nat} {v : Value} {l : List UInt8} {c : UInt8} (h : w.ownsRow B 5 1 v (l.length + 1) (l.map byV ++ [byV c])) : OwnB w B v (l ++ [c]) := by
  unfold OwnB
  rw [List.length_append, List.map_append]
  exact h
theorem OwnB.some_ {w : World} {B : Nat} {v : Value} {l : List UInt8} (h : OwnB w B v l) (hl : 0 < l.length) : ∃ g c, v = .slice (some ⟨g, 0, none⟩) l.length c := by
  rcases h.2 with ⟨e, h0⟩ | ⟨g, cap, cur, e, _⟩
  · omega
  · exact ⟨g, cap, e⟩
theorem OwnB.cell {w : World} {B g c : Nat} {l : List UInt8} (h : OwnB w B (.slice (some ⟨g, 0, none⟩) l.length c) l) (i : Nat) (hi : i < l.length) : w.cell? ⟨g, i, none⟩ = some (.int .u8 (l[i].toNat : Int)) := by
  have := World.ownsRow.cells (g := g) h rfl i (byV l[i]) (by rw [List.getElem?_map, List.getElem?_eq_getElem hi]; rfl)
  have ea : (⟨g, 0, none⟩ : Addr).add i = ⟨g, i, none⟩ := by unfold Addr.add; split <;> simp_all
  rw [ea] at this
  exact this
end
section
open Go.RowKit
set_option linter.unusedVariables false
theorem take_eq2 {xs ys : List Int} {k : Nat} {x : Int} (h : xs.take k = ys.take k) (hx : xs[k]? = some x) (hy : ys[k]? = some x) : xs.take (k + 1) = ys.take (k + 1) := by
  obtain ⟨h1, e1⟩ := List.getElem?_eq_some_iff.1 hx
  obtain ⟨h2, e2⟩ := List.getElem?_eq_some_iff.1 hy
  rw [List.take_succ_eq_append_getElem h1, List.take_succ_eq_append_getElem h2, h, e1, e2]
set_option maxHeartbeats 1000000 in
theorem iEq_is (w : World) (A A' : Option Addr) (n c n' c' : Nat) (xs ys : List Int) (h : Zs w w.heap.size A n xs) (h' : Zs w w.heap.size A' n' ys) (hn : n ≤ 1100000) (hn' : n' ≤ 1100000) (b : Bool) (hb : decide (xs = ys) = b) :
    Calls Tryz.prog 39 #[.slice A n c, .slice A' n' c'] w fun e w' => e = .returned (.bool b) ∧ Below w.heap.size w w' := by
  have H := Lib.hid h
  have H' := Lib.hid h'
  have L := h.len
  have L' := h'.len
  clear h h'
  by_cases hlen : n = n'
  · subst hlen
    have HL := Lib.hid L
    have HL' := Lib.hid L'
    have HBV := Lib.hid hb
    clear L L' hb
    go_enter Tryz.func39, Tryz.ntmps39
    go_wp2
    go_loopw [13] (fun i wr => ∃ k : Nat, k ≤ n ∧ i = .int .i64 k ∧ Hid (xs.take k = ys.take k) ∧ Hid (Below w.heap.size w wr)) (fun i _ => n - (intOf i).toNat)
    case atStart => exact ⟨0, Nat.zero_le _, rfl, Lib.hid rfl, Lib.hid (Below.refl _ _)⟩
    case round =>
      obtain ⟨k, hk, rfl, HT, HB⟩ := hrel
      by_cases hlt : k < n
      · obtain ⟨x, hx⟩ := zs_at H.out hlt
        obtain ⟨y, hy⟩ := zs_at H'.out hlt
        obtain ⟨p, o, rfl, hbl, c0⟩ := (H.out.below HB.out).at_ k x hx
        obtain ⟨p', o', rfl, hbl', d0⟩ := (H'.out.below HB.out).at_ k y hy
        have i1 : (0 : Int) ≤ (k : Int) := by omega
        have i2 : (k : Int) < (n : Int) := by omega
        by_cases hxy : x = y
        · subst hxy
          have HT2 := Lib.hid (take_eq2 HT.out hx hy)
          clear hx hy
          go_wp2
          go_quiet (fail)
          go_wp2
          go_roundw
          case rel => exact ⟨k + 1, by omega, by go_num, HT2, Lib.hid (bl_drewN HB.out _)⟩
          case measure => simp [intOf]; omega
        · have t1 : (x == y) = false := by simpa using hxy
          have t2 : (x != y) = true := by simpa using hxy
          obtain rfl : b = false := by
            rw [← HBV.out]
            refine decide_eq_false fun e => hxy ?_
            rw [e, hy] at hx
            injection hx with hx
            exact hx.symm
          clear hx hy
          go_wp2
          go_quiet (fail)
          go_wp2
          go_ret
          exact ⟨rfl, bl_drewN HB.out _⟩
      · obtain rfl : k = n := by omega
        obtain rfl : b = true := by
          rw [← HBV.out]
          refine decide_eq_true ?_
          have h := HT.out
          rwa [List.take_of_length_le (by rw [HL.out]; exact Nat.le_refl _), List.take_of_length_le (by rw [HL'.out]; exact Nat.le_refl _)] at h
        go_wp2
        go_ret
        exact ⟨rfl, HB.out⟩
  · obtain rfl : b = false := by
      rw [← hb]
      refine decide_eq_false fun e => hlen ?_
      rw [← L, ← L', e]
    have t1 : ((n : Int) == (n' : Int)) = false := by rw [beq_eq_false_iff_ne]; omega
    have t2 : ((n : Int) != (n' : Int)) = true := by rw [bne_iff_ne]; omega
    have t3 : ¬ (n : Int) = (n' : Int) := by omega
    clear L L'
    go_enter Tryz.func39, Tryz.ntmps39
    go_wp2
    go_ret
    exact ⟨rfl, Below.refl _ _⟩
def sameR (en tr sw : List Int) (hi : Bool) (en' tr' sw' : List Int) (hj : Bool) : Bool := decide (en = en') && decide (tr = tr') && decide (sw = sw') && (hi == hj)
theorem iSame_is (w : World) (A1 : Option Addr) (n1 c1 : Nat) (A2 : Option Addr) (n2 c2 : Nat) (A3 : Option Addr) (n3 c3 : Nat) (hi : Bool) (en tr sw : List Int)
    (X1 : Option Addr) (k1 d1 : Nat) (X2 : Option Addr) (k2 d2 : Nat) (X3 : Option Addr) (k3 d3 : Nat) (hj : Bool) (en' tr' sw' : List Int)
    (h : RnAt w A1 n1 A2 n2 A3 n3 en tr sw) (h' : RnAt w X1 k1 X2 k2 X3 k3 en' tr' sw') (m1 : n1 ≤ 1100000) (m2 : n2 ≤ 1100000) (m3 : n3 ≤ 1100000) (q1 : k1 ≤ 1100000) (q2 : k2 ≤ 1100000) (q3 : k3 ≤ 1100000)
    (b : Bool) (hb : sameR en tr sw hi en' tr' sw' hj = b) :
    Calls Tryz.prog 18 #[.agg #[.slice A1 n1 c1, .slice A2 n2 c2, .slice A3 n3 c3, .bool hi], .agg #[.slice X1 k1 d1, .slice X2 k2 d2, .slice X3 k3 d3, .bool hj]] w fun e w' => e = .returned (.bool b) ∧ Below w.heap.size w w' := by
  have H := Lib.hid h
  have H' := Lib.hid h'
  clear h h'
  obtain ⟨b1, e1⟩ : ∃ b1, decide (en = en') = b1 := ⟨_, rfl⟩
  obtain ⟨b2, e2⟩ : ∃ b2, decide (tr = tr') = b2 := ⟨_, rfl⟩
  obtain ⟨b3, e3⟩ : ∃ b3, decide (sw = sw') = b3 := ⟨_, rfl⟩
  obtain rfl : b = (b1 && b2 && b3 && (hi == hj)) := by rw [← hb, ← e1, ← e2, ← e3]; rfl
  clear hb
  have HE1 := Lib.hid e1
  have HE2 := Lib.hid e2
  have HE3 := Lib.hid e3
  clear e1 e2 e3
  go_enter Tryz.func18, Tryz.ntmps18
  go_wp2_with fail
  refine (iEq_is _ A1 X1 n1 c1 k1 d1 _ _ (H.out.below (bl_alloc (bl_alloc (Below.refl _ w) _) _)).e (H'.out.below (bl_alloc (bl_alloc (Below.refl _ w) _) _)).e m1 q1 b1 HE1.out).mono ?_
  rintro e w1 ⟨rfl, hb⟩
  have HB1 := Lib.hid (bl_trans (bl_alloc (bl_alloc (Below.refl _ w) _) _) hb)
  have bA1 := Lib.hid (((Blk.new w 29 #[.slice A1 n1 c1, .slice A2 n2 c2, .slice A3 n3 c3, .bool hi]).alloc _).below hb (by simp <;> omega))
  have bX1 : Hid (Blk w1 (w.heap.size + 1) 29 #[.slice X1 k1 d1, .slice X2 k2 d2, .slice X3 k3 d3, .bool hj]) := by
    refine Lib.hid (Blk.below ?_ hb (by simp))
    have h := Blk.new (w.alloc (.cells #[.slice A1 n1 c1, .slice A2 n2 c2, .slice A3 n3 c3, .bool hi] 29)) 29 #[.slice X1 k1 d1, .slice X2 k2 d2, .slice X3 k3 d3, .bool hj]
    simpa using h
  clear hb
  have cA := bA1.out.cell
  have cX := bX1.out.cell
  cases b1
  · go_wp2
    go_ret
    exact ⟨by simp, HB1.out⟩
  go_wp2_with fail
  refine (iEq_is _ A2 X2 n2 c2 k2 d2 _ _ (H.out.below HB1.out).t (H'.out.below HB1.out).t m2 q2 b2 HE2.out).mono ?_
  rintro e w2 ⟨rfl, hb⟩
  have HB2 := Lib.hid (bl_trans HB1.out hb)
  have bA2 := Lib.hid (bA1.out.below hb bA1.out.lt)
  have bX2 := Lib.hid (bX1.out.below hb bX1.out.lt)
  clear hb cA cX bA1 bX1
  have cA := bA2.out.cell
  have cX := bX2.out.cell
  cases b2
  · go_wp2
    go_ret
    exact ⟨by simp, HB2.out⟩
  go_wp2_with fail
  refine (iEq_is _ A3 X3 n3 c3 k3 d3 _ _ (H.out.below HB2.out).s (H'.out.below HB2.out).s m3 q3 b3 HE3.out).mono ?_
  rintro e w3 ⟨rfl, hb⟩
  have HB3 := Lib.hid (bl_trans HB2.out hb)
  have bA3 := Lib.hid (bA2.out.below hb bA2.out.lt)
  have bX3 := Lib.hid (bX2.out.below hb bX2.out.lt)
  clear hb cA cX bA2 bX2
  have cA := bA3.out.cell
  have cX := bX3.out.cell
  cases b3
  · go_wp2
    go_ret
    exact ⟨by simp, HB3.out⟩
  go_wp2
  go_ret
  exact ⟨by simp, HB3.out⟩
end
section
open Go.RowKit
set_option linter.unusedVariables false
/-- At how many places a number stands. -/
def ranZ (z : Int) (l : List Int) : Nat := (l.filter (fun x => x == z)).length
theorem ran_yes {z : Int} {l : List Int} {k m : Nat} (hx : l[k]? = some z) (h : ranZ z (l.take k) = m) : ranZ z (l.take (k + 1)) = m + 1 := by
  obtain ⟨hk, rfl⟩ := List.getElem?_eq_some_iff.1 hx
  rw [List.take_succ_eq_append_getElem hk, ranZ, List.filter_append, List.length_append]
  simp
  exact h
theorem ran_no {z x : Int} {l : List Int} {k m : Nat} (hx : l[k]? = some x) (hne : (x == z) = false) (h : ranZ z (l.take k) = m) : ranZ z (l.take (k + 1)) = m := by
  obtain ⟨hk, rfl⟩ := List.getElem?_eq_some_iff.1 hx
  rw [List.take_succ_eq_append_getElem hk, ranZ, List.filter_append, List.length_append]
  simp [hne]
  exact h
def RanRes (z : Int) (tr : List Int) (w : World) (e : Ending) (w' : World) : Prop := e = .returned (.int .i64 (ranZ z tr : Nat)) ∧ Below w.heap.size w w'
set_option maxHeartbeats 1000000 in
theorem iRan_is (w : World) (A1 : Option Addr) (n1 c1 : Nat) (A2 : Option Addr) (n2 c2 : Nat) (A3 : Option Addr) (n3 c3 : Nat) (hi : Bool) (tr : List Int) (h : Zs w w.heap.size A2 n2 tr) (hn : n2 ≤ 1100000) (z : Int) :
    Calls Tryz.prog 23 #[.agg #[.slice A1 n1 c1, .slice A2 n2 c2, .slice A3 n3 c3, .bool hi], .int .i64 z] w (RanRes z tr w) := by
  have H := Lib.hid h
  have HL := Lib.hid h.len
  clear h
  go_enter Tryz.func23, Tryz.ntmps23
  go_wp2
  go_loop [5, 11] (fun s i => ∃ k m : Nat, k ≤ n2 ∧ i = .int .i64 k ∧ s = .int .i64 m ∧ m ≤ k ∧ Hid (ranZ z (tr.take k) = m)) (fun _ i => n2 - (intOf i).toNat)
  case atStart => exact ⟨0, 0, Nat.zero_le _, rfl, rfl, Nat.le_refl _, Lib.hid rfl⟩
  case round =>
    obtain ⟨k, m, hk, rfl, rfl, hmk, HM⟩ := hrel
    by_cases hlt : k < n2
    · have q2 : (k : Int) < (n2 : Int) := by omega
      obtain ⟨x, hx⟩ := zs_at H.out hlt
      obtain ⟨b, o, rfl, hbl, c0⟩ := H.out.at_ k x hx
      have c1 := ((bl_alloc (Below.refl w.heap.size w) (.cells #[.slice A1 n1 c1, .slice (some ⟨b, o, none⟩) n2 c2, .slice A3 n3 c3, .bool hi] 29)).cell (p := ⟨b, o + k, none⟩) hbl).trans c0
      by_cases hxz : x = z
      · subst hxz
        have HN := Lib.hid (ran_yes hx HM.out)
        go_wp2
        go_round
        case rel => exact ⟨k + 1, m + 1, by omega, by go_num, by go_num, by omega, HN⟩
        case measure => simp [intOf]; omega
      · have tz : (x == z) = false := by simpa using hxz
        have HN := Lib.hid (ran_no hx tz HM.out)
        go_wp2
        go_round
        case rel => exact ⟨k + 1, m, by omega, by go_num, rfl, by omega, HN⟩
        case measure => simp [intOf]; omega
    · obtain rfl : k = n2 := by omega
      go_wp2
      go_ret
      refine ⟨?_, bl_alloc (Below.refl _ w) _⟩
      have h := HM.out
      rw [List.take_of_length_le (by rw [HL.out]; exact Nat.le_refl _)] at h
      rw [h]
      rfl
theorem iIdle_is (w : World) (A1 : Option Addr) (n1 c1 : Nat) (A2 : Option Addr) (n2 c2 : Nat) (A3 : Option Addr) (n3 c3 : Nat) (hi : Bool) (tr : List Int) (h : Zs w w.heap.size A2 n2 tr) (hn : n2 ≤ 1100000) :
    Calls Tryz.prog 22 #[.agg #[.slice A1 n1 c1, .slice A2 n2 c2, .slice A3 n3 c3, .bool hi]] w (RanRes (-1) tr w) := by
  go_enter Tryz.func22, Tryz.ntmps22
  go_wp2_with fail
  refine (iRan_is _ A1 n1 c1 A2 n2 c2 A3 n3 c3 hi tr ((h.below (bl_alloc (Below.refl _ w) _)).more (by simp)) hn (-1)).mono ?_
  rintro e w1 ⟨rfl, hb⟩
  go_wp2
  go_ret
  exact ⟨rfl, bl_trans (bl_alloc (Below.refl _ w) _) hb⟩
end
end Go.Proofs.YtgponahmkjohiaaGreatDoor
