/- Contracts of DroppedOf, the program's and the reference's, and of the marks that are written into a run. -/
import Derived.Test.YtjondedkgkohfaaRnA
import Derived.Test.YtjondedkgkohfaaZk
import Derived.Test.YtjondedkgkohfaaPli
import Derived.Test.YtjondedkgkohfaaQPlI
import Derived.LoopTactic
namespace Go.Proofs.Ytjondedkgkohfaa
open Go.RowKit
set_option linter.unusedVariables false

theorem bl_less {w w' : World} {B B' : Nat} (h : Below B w w') (hB : B' ≤ B) : Below B' w w' := ⟨h.os, h.tape, h.output, h.size, fun i hi => h.block i (by omega)⟩
def dropP (en : List Int) (q : Nat) : Bool := en.getD q 0 == -2

set_option maxRecDepth 100000 in
set_option maxHeartbeats 2000000 in
theorem iDropped_is (w : World) (A1 : Option Addr) (n1 c1 : Nat) (A2 : Option Addr) (n2 c2 : Nat) (A3 : Option Addr) (n3 c3 : Nat) (hi : Bool) (en : List Int) (h : Zs w w.heap.size A1 n1 en) (hn : n1 ≤ 1100000) :
    Calls Try.prog 23 #[.agg #[.slice A1 n1 c1, .slice A2 n2 c2, .slice A3 n3 c3, .bool hi]] w (ZsRes (placesI (dropP en) n1) w) := by
  go_enter Try.func23, Try.ntmps23
  go_wp2_with fail
  refine (iPlI_is _ A1 n1 c1 en ((h.below (bl_alloc (Below.refl _ w) _)).more (by simp)) hn 61 #[] (dropP en) (fun _ _ => rfl) (fun W q j hj hbW => ?_)).mono ?_
  · have hd : dropP en q = (j == -2) := by unfold dropP; simp [List.getD, hj]
    rw [hd]
    show Calls _ _ #[.int .i64 (q : Int), .int .i64 j] _ _
    clear hd hj hbW
    go_enter Try.func61, Try.ntmps61
    go_wp2
    go_ret
    exact ⟨rfl, Below.refl _ _⟩
  rintro e w2 ⟨A3, c3, rfl, ho, hb⟩
  have HO := Lib.hid (show OwnZ w2 w.heap.size _ _ from OwnZ.less ho (by simp))
  have HB := Lib.hid (bl_trans (bl_alloc (Below.refl _ w) _) hb)
  clear ho hb
  go_wp2
  go_ret
  exact ⟨A3, c3, rfl, HO.out, HB.out⟩

set_option maxRecDepth 100000 in
set_option maxHeartbeats 2000000 in
theorem sDropped_is (w : World) (A1 : Option Addr) (n1 c1 : Nat) (A2 : Option Addr) (n2 c2 : Nat) (A3 : Option Addr) (n3 c3 : Nat) (hi : Bool) (en : List Int) (h : Zs w w.heap.size A1 n1 en) (hn : n1 ≤ 1100000) :
    Calls Try.prog 24 #[.agg #[.slice A1 n1 c1, .slice A2 n2 c2, .slice A3 n3 c3, .bool hi]] w (ZsRes (placesI (dropP en) n1) w) := by
  obtain ⟨i0, hi', hz0, hz1, hz2⟩ := info_parts info_int
  have HE := Lib.hid (And.intro (bl_alloc (Below.refl w.heap.size w) (.cells #[.slice A1 n1 c1, .slice A2 n2 c2, .slice A3 n3 c3, .bool hi] 27)) (Blk.new w 27 #[.slice A1 n1 c1, .slice A2 n2 c2, .slice A3 n3 c3, .bool hi]))
  obtain ⟨wa, hwa⟩ : ∃ wa, w.alloc (.cells #[.slice A1 n1 c1, .slice A2 n2 c2, .slice A3 n3 c3, .bool hi] 27) = wa := ⟨_, rfl⟩
  rw [hwa] at HE
  have H := Lib.hid ((h.below HE.out.1).more HE.out.1.size)
  have cA := HE.out.2.cell
  clear h
  go_enter Try.func24, Try.ntmps24
  go_wp2
  try rw [hwa]
  go_loopw [3, 4] (fun v i wr => ∃ q : Nat, ∃ zs : List Int, q ≤ n1 ∧ i = .int .i64 q ∧ zs.length ≤ q ∧ Hid (zs = placesI (dropP en) q) ∧ Hid (OwnZ wr wa.heap.size v zs) ∧ Hid (Below wa.heap.size wa wr)) (fun _ i _ => n1 - (intOf i).toNat)
  case atStart => exact ⟨0, [], Nat.zero_le _, rfl, Nat.le_refl _, Lib.hid rfl, Lib.hid (OwnZ.empty wa), Lib.hid (bl_alloc (Below.refl _ _) _)⟩
  case round =>
    obtain ⟨q, zs, hq, rfl, hzl, HZ, HO, HB⟩ := hrel
    obtain ⟨A4, c4, rfl⟩ := HO.out.form
    clear cA hwa
    have cA := (HE.out.2.below HB.out HE.out.2.lt).cell
    have hw1 : wa.heap.size ≤ wr.heap.size := HB.out.size
    by_cases hqm : q < n1
    · have q2 : (q : Int) < (n1 : Int) := by omega
      obtain ⟨x, hx⟩ := zs_at H.out hqm
      obtain ⟨b, o, rfl, hbl, c0⟩ := (H.out.below HB.out).at_ q x hx
      have hd : dropP en q = (x == -2) := by unfold dropP; simp [List.getD, hx]
      by_cases hxz : x = -2
      · subst hxz
        have HN := Lib.hid (places_yes (P := dropP en) (n := q) (by rw [hd]; rfl))
        clear hd
        go_wp2_with (at_builtin; refine wpList_append_own _ rfl (.tmp 19) (.tmp 21) 25 rfl wa.heap.size 3 i0 _ 1 8 Try.underlying25 hi' hz0 hz1 hz2 rfl (by decide) _ zs.length (zs.map (Value.int .i64)) rfl (HO.out.alloc _) ⟨wr.heap.size, 0, none⟩ 1 1 [Value.int .i64 (q : Int)] rfl rfl (cell_new1_at _ _ _ _ rfl) (by intro u hu; rw [List.mem_singleton.1 hu]; rfl) (by unfold maxLen; omega) (by omega) (by simp; omega) ?_; intro v2 w9 hown2 hgrow2 _; have HO2 := Lib.hid (show OwnZ w9 wa.heap.size v2 (zs ++ [(q : Int)]) from OwnZ.snoc hown2); have HB9 := Lib.hid ((bl_alloc HB.out _).grown hgrow2 (by simp; omega) (fun k e => (World.ownsRow.lt HO.out k e).1)); clear hown2 hgrow2)
        go_wp2
        go_roundw
        case rel => exact ⟨q + 1, zs ++ [(q : Int)], by omega, by go_num, by simp; omega, Lib.hid (by rw [HN.out, HZ.out]), HO2, HB9⟩
        case measure => simp [intOf]; omega
      · have tz : (x == -2) = false := by simpa using hxz
        have HN := Lib.hid (places_no (P := dropP en) (n := q) (by rw [hd]; exact tz))
        clear hd
        go_wp2
        go_roundw
        case rel => exact ⟨q + 1, zs, by omega, by go_num, by omega, Lib.hid (by rw [HN.out, HZ.out]), HO, HB⟩
        case measure => simp [intOf]; omega
    · obtain rfl : q = n1 := by omega
      go_wp2
      go_ret
      rw [← HZ.out]
      exact ⟨A4, c4, rfl, HO.out.less HE.out.1.size, bl_trans HE.out.1 HB.out⟩

/-- What the marks written into a run leave. -/
def MarkRn (B1 B4 : Nat) (w : World) (e : Ending) (w' : World) : Prop :=
  (∃ z : Nat, e = .returned (.int .i64 z)) ∧ Below B1 w w' ∧ w.heap.size ≤ w'.heap.size ∧ (∀ v us, OwnZ w B4 v us → OwnZ w' B4 v us) ∧ (∀ B v us, (∀ k, v.ownBlock = some k → k < B1) → OwnZ w B v us → OwnZ w' B v us)

theorem OwnZ.kept_dn {w w' : World} {B M : Nat} {v : Value} {zs : List Int} {row : Option Nat} (h : OwnZ w B v zs) (hg : w.grownBy w' row) (hv : ∀ k, v.ownBlock = some k → k < M) (hr : ∀ k, row = some k → M ≤ k) : OwnZ w' B v zs := by
  refine World.ownsRow.kept h hg ?_
  rcases he : v.ownBlock with _ | k
  · exact .inl rfl
  · right
    intro e
    have := hv k he
    have := hr k e.symm
    omega

set_option maxHeartbeats 2000000 in
theorem markRun_own (w : World) (B1 B2 B3 B4 : Nat) (A1 : Option Addr) (c1 : Nat) (A2 : Option Addr) (c2 : Nat) (A3 : Option Addr) (c3 : Nat) (hi : Bool) (en tr sw : List Int) (k0 : Nat)
    (o1 : OwnZ w B1 (.slice A1 en.length c1) en) (o2 : OwnZ w B2 (.slice A2 tr.length c2) tr) (o3 : OwnZ w B3 (.slice A3 sw.length c3) sw)
    (l1 : ∀ k, (Value.slice A1 en.length c1).ownBlock = some k → k < B2) (l2 : ∀ k, (Value.slice A2 tr.length c2).ownBlock = some k → k < B3) (l3 : ∀ k, (Value.slice A3 sw.length c3).ownBlock = some k → k < B4)
    (h12 : B1 ≤ B2) (h23 : B2 ≤ B3) (h34 : B3 ≤ B4) (h4 : B4 ≤ w.heap.size) (m1 : en.length ≤ 1048576) (m2 : tr.length ≤ 1048576) (m3 : sw.length ≤ 1048576) (hk0 : k0 ≤ 30000000) :
    Calls Try.prog 51 #[.agg #[.slice A1 en.length c1, .slice A2 tr.length c2, .slice A3 sw.length c3, .bool hi], .int .i64 k0] w (MarkRn B1 B4 w) := by
  have hsz := (World.size_alloc w (.cells #[.slice A1 en.length c1, .slice A2 tr.length c2, .slice A3 sw.length c3, .bool hi] 27))
  have b0 := Blk.new w 27 #[.slice A1 en.length c1, .slice A2 tr.length c2, .slice A3 sw.length c3, .bool hi]
  have q1 : ∀ k, (Value.slice A1 en.length c1).ownBlock = some k → B1 ≤ k ∧ k < w.heap.size := fun k e => World.ownsRow.lt o1 k e
  have q2 : ∀ k, (Value.slice A2 tr.length c2).ownBlock = some k → B2 ≤ k ∧ k < w.heap.size := fun k e => World.ownsRow.lt o2 k e
  have q3 : ∀ k, (Value.slice A3 sw.length c3).ownBlock = some k → B3 ≤ k ∧ k < w.heap.size := fun k e => World.ownsRow.lt o3 k e
  obtain ⟨wa, hwa⟩ : ∃ wa, w.alloc (.cells #[.slice A1 en.length c1, .slice A2 tr.length c2, .slice A3 sw.length c3, .bool hi] 27) = wa := ⟨_, rfl⟩
  have HBa : Hid (Below B1 w wa) := Lib.hid (hwa ▸ bl_less (bl_alloc (Below.refl w.heap.size w) _) (by omega))
  have HU : Hid (∀ v us, OwnZ w B4 v us → OwnZ wa B4 v us) := Lib.hid (fun v us h => hwa ▸ h.alloc _)
  have HD : Hid (∀ B v us, OwnZ w B v us → OwnZ wa B v us) := Lib.hid (fun B v us h => hwa ▸ h.alloc _)
  have O1 := Lib.hid (HD.out _ _ _ o1)
  have O2 := Lib.hid (HD.out _ _ _ o2)
  have O3 := Lib.hid (HD.out _ _ _ o3)
  rw [hwa] at b0 hsz
  have bA := Lib.hid b0
  have Q1 := Lib.hid q1
  have Q2 := Lib.hid q2
  have Q3 := Lib.hid q3
  have T1 := Lib.hid l1
  have T2 := Lib.hid l2
  have T3 := Lib.hid l3
  clear o1 o2 o3 b0 q1 q2 q3 l1 l2 l3
  have cA := bA.out.cell
  go_enter Try.func51, Try.ntmps51
  go_wp2_with fail
  try rw [hwa]
  refine (markZ_own _ B1 A1 c1 k0 en O1.out m1 (by omega)).mono ?_
  rintro e w1 ⟨rfl, _, hg⟩
  have hs1 : wa.heap.size ≤ w1.heap.size := hg.size
  have G1 := Lib.hid hg
  have bA1 := Lib.hid (bA.out.grown hg (fun e => by have := (Q1.out _ e.symm).2; omega))
  have O21 := Lib.hid (O2.out.kept hg (fun k e => T1.out k e))
  have O31 := Lib.hid (O3.out.kept hg (fun k e => by have := T1.out k e; omega))
  clear hg cA
  have cA := bA1.out.cell
  go_wp2_with fail
  refine (markZ_own _ B2 A2 c2 (k0 + en.length) tr O21.out m2 (by omega)).mono ?_
  rintro e w2 ⟨rfl, _, hg⟩
  have hs2 : w1.heap.size ≤ w2.heap.size := hg.size
  have G2 := Lib.hid hg
  have bA2 := Lib.hid (bA1.out.grown hg (fun e => by have := (Q2.out _ e.symm).2; omega))
  have O32 := Lib.hid (O31.out.kept hg (fun k e => T2.out k e))
  clear hg cA
  have cA := bA2.out.cell
  go_wp2_with fail
  refine (markZ_own _ B3 A3 c3 (k0 + en.length + tr.length) sw O32.out m3 (by omega)).mono ?_
  rintro e w3 ⟨rfl, _, hg⟩
  have hs3 : w2.heap.size ≤ w3.heap.size := hg.size
  have G3 := Lib.hid hg
  clear hg cA
  go_wp2
  go_ret
  refine ⟨⟨_, rfl⟩, ?_, by omega, fun v us h => ?_, fun B v us hv h => ?_⟩
  · have X1 := HBa.out.grown G1.out (by omega) (fun k e => (Q1.out k e).1)
    have X2 := X1.grown G2.out (by omega) (fun k e => by have := (Q2.out k e).1; omega)
    exact X2.grown G3.out (by omega) (fun k e => by have := (Q3.out k e).1; omega)
  · have X1 := (HU.out v us h).kept G1.out (fun k e => by have := T1.out k e; omega)
    have X2 := X1.kept G2.out (fun k e => by have := T2.out k e; omega)
    exact X2.kept G3.out (fun k e => T3.out k e)
  · have X1 := (HD.out B v us h).kept_dn G1.out hv (fun k e => (Q1.out k e).1)
    have X2 := X1.kept_dn G2.out hv (fun k e => by have := (Q2.out k e).1; omega)
    exact X2.kept_dn G3.out hv (fun k e => by have := (Q3.out k e).1; omega)

end Go.Proofs.Ytjondedkgkohfaa
