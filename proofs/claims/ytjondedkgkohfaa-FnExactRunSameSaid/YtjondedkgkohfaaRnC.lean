/- Contracts of the equality of lists of numbers, the library's and the reference's, and of RunSame. -/
import Derived.Test.YtjondedkgkohfaaRnA
import Derived.Deep.QuietTactic
import Derived.BigQuiet
import Derived.LoopTactic
namespace Go.Proofs.Ytjondedkgkohfaa
open Go.RowKit
set_option linter.unusedVariables false

theorem take_eq2 {xs ys : List Int} {k : Nat} {x : Int} (h : xs.take k = ys.take k) (hx : xs[k]? = some x) (hy : ys[k]? = some x) : xs.take (k + 1) = ys.take (k + 1) := by
  obtain ⟨h1, e1⟩ := List.getElem?_eq_some_iff.1 hx
  obtain ⟨h2, e2⟩ := List.getElem?_eq_some_iff.1 hy
  rw [List.take_succ_eq_append_getElem h1, List.take_succ_eq_append_getElem h2, h, e1, e2]

set_option maxHeartbeats 1000000 in
theorem iEq_is (w : World) (A A' : Option Addr) (n c n' c' : Nat) (xs ys : List Int) (h : Zs w w.heap.size A n xs) (h' : Zs w w.heap.size A' n' ys) (hn : n ≤ 1100000) (hn' : n' ≤ 1100000) (b : Bool) (hb : decide (xs = ys) = b) :
    Calls Try.prog 65 #[.slice A n c, .slice A' n' c'] w fun e w' => e = .returned (.bool b) ∧ Below w.heap.size w w' := by
  have H := Lib.hid h
  have H' := Lib.hid h'
  have L := h.len
  have L' := h'.len
  clear h h'
  by_cases hlen : n = n'
  · subst hlen
    have HL := Lib.hid L
    have HL' := Lib.hid L'
    have HBV := Lib.hid hb
    clear L L' hb
    go_enter Try.func65, Try.ntmps65
    go_wp2
    go_loopw [13] (fun i wr => ∃ k : Nat, k ≤ n ∧ i = .int .i64 k ∧ Hid (xs.take k = ys.take k) ∧ Hid (Below w.heap.size w wr)) (fun i _ => n - (intOf i).toNat)
    case atStart => exact ⟨0, Nat.zero_le _, rfl, Lib.hid rfl, Lib.hid (Below.refl _ _)⟩
    case round =>
      obtain ⟨k, hk, rfl, HT, HB⟩ := hrel
      by_cases hlt : k < n
      · obtain ⟨x, hx⟩ := zs_at H.out hlt
        obtain ⟨y, hy⟩ := zs_at H'.out hlt
        obtain ⟨p, o, rfl, hbl, c0⟩ := (H.out.below HB.out).at_ k x hx
        obtain ⟨p', o', rfl, hbl', d0⟩ := (H'.out.below HB.out).at_ k y hy
        have i1 : (0 : Int) ≤ (k : Int) := by omega
        have i2 : (k : Int) < (n : Int) := by omega
        by_cases hxy : x = y
        · subst hxy
          have HT2 := Lib.hid (take_eq2 HT.out hx hy)
          clear hx hy
          go_wp2
          go_quiet (fail)
          go_wp2
          go_roundw
          case rel => exact ⟨k + 1, by omega, by go_num, HT2, Lib.hid (bl_drewN HB.out _)⟩
          case measure => simp [intOf]; omega
        · have t1 : (x == y) = false := by simpa using hxy
          have t2 : (x != y) = true := by simpa using hxy
          obtain rfl : b = false := by
            rw [← HBV.out]
            refine decide_eq_false fun e => hxy ?_
            rw [e, hy] at hx
            injection hx with hx
            exact hx.symm
          clear hx hy
          go_wp2
          go_quiet (fail)
          go_wp2
          go_ret
          exact ⟨rfl, bl_drewN HB.out _⟩
      · obtain rfl : k = n := by omega
        obtain rfl : b = true := by
          rw [← HBV.out]
          refine decide_eq_true ?_
          have h := HT.out
          rwa [List.take_of_length_le (by rw [HL.out]; exact Nat.le_refl _), List.take_of_length_le (by rw [HL'.out]; exact Nat.le_refl _)] at h
        go_wp2
        go_ret
        exact ⟨rfl, HB.out⟩
  · obtain rfl : b = false := by
      rw [← hb]
      refine decide_eq_false fun e => hlen ?_
      rw [← L, ← L', e]
    have t1 : ((n : Int) == (n' : Int)) = false := by rw [beq_eq_false_iff_ne]; omega
    have t2 : ((n : Int) != (n' : Int)) = true := by rw [bne_iff_ne]; omega
    have t3 : ¬ (n : Int) = (n' : Int) := by omega
    clear L L'
    go_enter Try.func65, Try.ntmps65
    go_wp2
    go_ret
    exact ⟨rfl, Below.refl _ _⟩

set_option maxHeartbeats 1000000 in
theorem sEq_is (w : World) (A A' : Option Addr) (n c n' c' : Nat) (xs ys : List Int) (h : Zs w w.heap.size A n xs) (h' : Zs w w.heap.size A' n' ys) (hn : n ≤ 1100000) (hn' : n' ≤ 1100000) (b : Bool) (hb : decide (xs = ys) = b) :
    Calls Try.prog 66 #[.slice A n c, .slice A' n' c'] w fun e w' => e = .returned (.bool b) ∧ Below w.heap.size w w' := by
  have H := Lib.hid h
  have H' := Lib.hid h'
  have L := h.len
  have L' := h'.len
  clear h h'
  by_cases hlen : n = n'
  · subst hlen
    have HL := Lib.hid L
    have HL' := Lib.hid L'
    have HBV := Lib.hid hb
    clear L L' hb
    go_enter Try.func66, Try.ntmps66
    go_wp2
    go_loopw [5] (fun i wr => ∃ k : Nat, k ≤ n ∧ i = .int .i64 k ∧ Hid (xs.take k = ys.take k) ∧ Hid (Below w.heap.size w wr)) (fun i _ => n - (intOf i).toNat)
    case atStart => exact ⟨0, Nat.zero_le _, rfl, Lib.hid rfl, Lib.hid (Below.refl _ _)⟩
    case round =>
      obtain ⟨k, hk, rfl, HT, HB⟩ := hrel
      by_cases hlt : k < n
      · obtain ⟨x, hx⟩ := zs_at H.out hlt
        obtain ⟨y, hy⟩ := zs_at H'.out hlt
        obtain ⟨p, o, rfl, hbl, c0⟩ := (H.out.below HB.out).at_ k x hx
        obtain ⟨p', o', rfl, hbl', d0⟩ := (H'.out.below HB.out).at_ k y hy
        have i1 : (0 : Int) ≤ (k : Int) := by omega
        have i2 : (k : Int) < (n : Int) := by omega
        by_cases hxy : x = y
        · subst hxy
          have HT2 := Lib.hid (take_eq2 HT.out hx hy)
          clear hx hy
          go_wp2
          go_quiet (fail)
          go_wp2
          go_roundw
          case rel => exact ⟨k + 1, by omega, by go_num, HT2, Lib.hid (bl_drewN HB.out _)⟩
          case measure => simp [intOf]; omega
        · have t1 : (x == y) = false := by simpa using hxy
          have t2 : (x != y) = true := by simpa using hxy
          obtain rfl : b = false := by
            rw [← HBV.out]
            refine decide_eq_false fun e => hxy ?_
            rw [e, hy] at hx
            injection hx with hx
            exact hx.symm
          clear hx hy
          go_wp2
          go_quiet (fail)
          go_wp2
          go_ret
          exact ⟨rfl, bl_drewN HB.out _⟩
      · obtain rfl : k = n := by omega
        obtain rfl : b = true := by
          rw [← HBV.out]
          refine decide_eq_true ?_
          have h := HT.out
          rwa [List.take_of_length_le (by rw [HL.out]; exact Nat.le_refl _), List.take_of_length_le (by rw [HL'.out]; exact Nat.le_refl _)] at h
        go_wp2
        go_ret
        exact ⟨rfl, HB.out⟩
  · obtain rfl : b = false := by
      rw [← hb]
      refine decide_eq_false fun e => hlen ?_
      rw [← L, ← L', e]
    have t1 : ((n : Int) == (n' : Int)) = false := by rw [beq_eq_false_iff_ne]; omega
    have t2 : ((n : Int) != (n' : Int)) = true := by rw [bne_iff_ne]; omega
    have t3 : ¬ (n : Int) = (n' : Int) := by omega
    clear L L'
    go_enter Try.func66, Try.ntmps66
    go_wp2
    go_ret
    exact ⟨rfl, Below.refl _ _⟩

def sameR (en tr sw : List Int) (hi : Bool) (en' tr' sw' : List Int) (hj : Bool) : Bool := decide (en = en') && decide (tr = tr') && decide (sw = sw') && (hi == hj)

theorem iSame_is (w : World) (A1 : Option Addr) (n1 c1 : Nat) (A2 : Option Addr) (n2 c2 : Nat) (A3 : Option Addr) (n3 c3 : Nat) (hi : Bool) (en tr sw : List Int)
    (X1 : Option Addr) (k1 d1 : Nat) (X2 : Option Addr) (k2 d2 : Nat) (X3 : Option Addr) (k3 d3 : Nat) (hj : Bool) (en' tr' sw' : List Int)
    (h : RnAt w A1 n1 A2 n2 A3 n3 en tr sw) (h' : RnAt w X1 k1 X2 k2 X3 k3 en' tr' sw') (m1 : n1 ≤ 1100000) (m2 : n2 ≤ 1100000) (m3 : n3 ≤ 1100000) (q1 : k1 ≤ 1100000) (q2 : k2 ≤ 1100000) (q3 : k3 ≤ 1100000)
    (b : Bool) (hb : sameR en tr sw hi en' tr' sw' hj = b) :
    Calls Try.prog 37 #[.agg #[.slice A1 n1 c1, .slice A2 n2 c2, .slice A3 n3 c3, .bool hi], .agg #[.slice X1 k1 d1, .slice X2 k2 d2, .slice X3 k3 d3, .bool hj]] w fun e w' => e = .returned (.bool b) ∧ Below w.heap.size w w' := by
  have H := Lib.hid h
  have H' := Lib.hid h'
  clear h h'
  obtain ⟨b1, e1⟩ : ∃ b1, decide (en = en') = b1 := ⟨_, rfl⟩
  obtain ⟨b2, e2⟩ : ∃ b2, decide (tr = tr') = b2 := ⟨_, rfl⟩
  obtain ⟨b3, e3⟩ : ∃ b3, decide (sw = sw') = b3 := ⟨_, rfl⟩
  obtain rfl : b = (b1 && b2 && b3 && (hi == hj)) := by rw [← hb, ← e1, ← e2, ← e3]; rfl
  clear hb
  have HE1 := Lib.hid e1
  have HE2 := Lib.hid e2
  have HE3 := Lib.hid e3
  clear e1 e2 e3
  go_enter Try.func37, Try.ntmps37
  go_wp2_with fail
  refine (iEq_is _ A1 X1 n1 c1 k1 d1 _ _ (H.out.below (bl_alloc (bl_alloc (Below.refl _ w) _) _)).e (H'.out.below (bl_alloc (bl_alloc (Below.refl _ w) _) _)).e m1 q1 b1 HE1.out).mono ?_
  rintro e w1 ⟨rfl, hb⟩
  have HB1 := Lib.hid (bl_trans (bl_alloc (bl_alloc (Below.refl _ w) _) _) hb)
  have bA1 := Lib.hid (((Blk.new w 27 #[.slice A1 n1 c1, .slice A2 n2 c2, .slice A3 n3 c3, .bool hi]).alloc _).below hb (by simp <;> omega))
  have bX1 : Hid (Blk w1 (w.heap.size + 1) 27 #[.slice X1 k1 d1, .slice X2 k2 d2, .slice X3 k3 d3, .bool hj]) := by
    refine Lib.hid (Blk.below ?_ hb (by simp))
    have h := Blk.new (w.alloc (.cells #[.slice A1 n1 c1, .slice A2 n2 c2, .slice A3 n3 c3, .bool hi] 27)) 27 #[.slice X1 k1 d1, .slice X2 k2 d2, .slice X3 k3 d3, .bool hj]
    simpa using h
  clear hb
  have cA := bA1.out.cell
  have cX := bX1.out.cell
  cases b1
  · go_wp2
    go_ret
    exact ⟨by simp, HB1.out⟩
  go_wp2_with fail
  refine (iEq_is _ A2 X2 n2 c2 k2 d2 _ _ (H.out.below HB1.out).t (H'.out.below HB1.out).t m2 q2 b2 HE2.out).mono ?_
  rintro e w2 ⟨rfl, hb⟩
  have HB2 := Lib.hid (bl_trans HB1.out hb)
  have bA2 := Lib.hid (bA1.out.below hb bA1.out.lt)
  have bX2 := Lib.hid (bX1.out.below hb bX1.out.lt)
  clear hb cA cX bA1 bX1
  have cA := bA2.out.cell
  have cX := bX2.out.cell
  cases b2
  · go_wp2
    go_ret
    exact ⟨by simp, HB2.out⟩
  go_wp2_with fail
  refine (iEq_is _ A3 X3 n3 c3 k3 d3 _ _ (H.out.below HB2.out).s (H'.out.below HB2.out).s m3 q3 b3 HE3.out).mono ?_
  rintro e w3 ⟨rfl, hb⟩
  have HB3 := Lib.hid (bl_trans HB2.out hb)
  have bA3 := Lib.hid (bA2.out.below hb bA2.out.lt)
  have bX3 := Lib.hid (bX2.out.below hb bX2.out.lt)
  clear hb cA cX bA2 bX2
  have cA := bA3.out.cell
  have cX := bX3.out.cell
  cases b3
  · go_wp2
    go_ret
    exact ⟨by simp, HB3.out⟩
  go_wp2
  go_ret
  exact ⟨by simp, HB3.out⟩

theorem sSame_is (w : World) (A1 : Option Addr) (n1 c1 : Nat) (A2 : Option Addr) (n2 c2 : Nat) (A3 : Option Addr) (n3 c3 : Nat) (hi : Bool) (en tr sw : List Int)
    (X1 : Option Addr) (k1 d1 : Nat) (X2 : Option Addr) (k2 d2 : Nat) (X3 : Option Addr) (k3 d3 : Nat) (hj : Bool) (en' tr' sw' : List Int)
    (h : RnAt w A1 n1 A2 n2 A3 n3 en tr sw) (h' : RnAt w X1 k1 X2 k2 X3 k3 en' tr' sw') (m1 : n1 ≤ 1100000) (m2 : n2 ≤ 1100000) (m3 : n3 ≤ 1100000) (q1 : k1 ≤ 1100000) (q2 : k2 ≤ 1100000) (q3 : k3 ≤ 1100000)
    (b : Bool) (hb : sameR en tr sw hi en' tr' sw' hj = b) :
    Calls Try.prog 38 #[.agg #[.slice A1 n1 c1, .slice A2 n2 c2, .slice A3 n3 c3, .bool hi], .agg #[.slice X1 k1 d1, .slice X2 k2 d2, .slice X3 k3 d3, .bool hj]] w fun e w' => e = .returned (.bool b) ∧ Below w.heap.size w w' := by
  have H := Lib.hid h
  have H' := Lib.hid h'
  clear h h'
  obtain ⟨b1, e1⟩ : ∃ b1, decide (en = en') = b1 := ⟨_, rfl⟩
  obtain ⟨b2, e2⟩ : ∃ b2, decide (tr = tr') = b2 := ⟨_, rfl⟩
  obtain ⟨b3, e3⟩ : ∃ b3, decide (sw = sw') = b3 := ⟨_, rfl⟩
  obtain rfl : b = (b1 && b2 && b3 && (hi == hj)) := by rw [← hb, ← e1, ← e2, ← e3]; rfl
  clear hb
  have HE1 := Lib.hid e1
  have HE2 := Lib.hid e2
  have HE3 := Lib.hid e3
  clear e1 e2 e3
  go_enter Try.func38, Try.ntmps38
  by_cases hhj : hi = hj
  case neg =>
    have t1 : (hi == hj) = false := by simpa using hhj
    rw [t1]
    go_wp2
    go_ret
    exact ⟨by simp, bl_alloc (bl_alloc (Below.refl _ w) _) _⟩
  subst hhj
  go_wp2_with fail
  refine (sEq_is _ A1 X1 n1 c1 k1 d1 _ _ (H.out.below (bl_alloc (bl_alloc (Below.refl _ w) _) _)).e (H'.out.below (bl_alloc (bl_alloc (Below.refl _ w) _) _)).e m1 q1 b1 HE1.out).mono ?_
  rintro e w1 ⟨rfl, hb⟩
  have HB1 := Lib.hid (bl_trans (bl_alloc (bl_alloc (Below.refl _ w) _) _) hb)
  have bA1 := Lib.hid (((Blk.new w 27 #[.slice A1 n1 c1, .slice A2 n2 c2, .slice A3 n3 c3, .bool hi]).alloc _).below hb (by simp <;> omega))
  have bX1 : Hid (Blk w1 (w.heap.size + 1) 27 #[.slice X1 k1 d1, .slice X2 k2 d2, .slice X3 k3 d3, .bool hi]) := by
    refine Lib.hid (Blk.below ?_ hb (by simp))
    have h := Blk.new (w.alloc (.cells #[.slice A1 n1 c1, .slice A2 n2 c2, .slice A3 n3 c3, .bool hi] 27)) 27 #[.slice X1 k1 d1, .slice X2 k2 d2, .slice X3 k3 d3, .bool hi]
    simpa using h
  clear hb
  have cA := bA1.out.cell
  have cX := bX1.out.cell
  cases b1
  · go_wp2
    go_ret
    exact ⟨by simp, HB1.out⟩
  go_wp2_with fail
  refine (sEq_is _ A2 X2 n2 c2 k2 d2 _ _ (H.out.below HB1.out).t (H'.out.below HB1.out).t m2 q2 b2 HE2.out).mono ?_
  rintro e w2 ⟨rfl, hb⟩
  have HB2 := Lib.hid (bl_trans HB1.out hb)
  have bA2 := Lib.hid (bA1.out.below hb bA1.out.lt)
  have bX2 := Lib.hid (bX1.out.below hb bX1.out.lt)
  clear hb cA cX bA1 bX1
  have cA := bA2.out.cell
  have cX := bX2.out.cell
  cases b2
  · go_wp2
    go_ret
    exact ⟨by simp, HB2.out⟩
  go_wp2_with fail
  refine (sEq_is _ A3 X3 n3 c3 k3 d3 _ _ (H.out.below HB2.out).s (H'.out.below HB2.out).s m3 q3 b3 HE3.out).mono ?_
  rintro e w3 ⟨rfl, hb⟩
  have HB3 := Lib.hid (bl_trans HB2.out hb)
  have bA3 := Lib.hid (bA2.out.below hb bA2.out.lt)
  have bX3 := Lib.hid (bX2.out.below hb bX2.out.lt)
  clear hb cA cX bA2 bX2
  have cA := bA3.out.cell
  have cX := bX3.out.cell
  cases b3
  · go_wp2
    go_ret
    exact ⟨by simp, HB3.out⟩
  go_wp2
  go_ret
  exact ⟨by simp, HB3.out⟩

end Go.Proofs.Ytjondedkgkohfaa
