/- Contracts of AddShares and CompareShares, in the program and in the reference. Nothing that was there is written. -/
import Derived.Test.YtncgchlnaobalabDoorMk
import Derived.RegionTactic
import Derived.ChangeAlike
import Derived.RegionTactic
import Derived.ChangeAlike
import Derived.Deep.RegionWith
namespace Go.Proofs.YtncgchlnaobalabDoor
open Go.RowKit
set_option linter.unusedVariables false

/-- Further calls from a world with more blocks and draws. -/
theorem bl_from {w W W' : World} (h : Below w.heap.size w W) (k : Below W.heap.size W W') : Below w.heap.size w W' := bl_trans h k
theorem Blk.drew {w : World} {g : Nat} {t : TypeId} {cs : Array Value} (h : Blk w g t cs) : Blk w.drew g t cs := h
def IntRes' (z : Int) (w : World) (e : Ending) (w' : World) : Prop := e = .returned (.int .i64 z) ∧ Below w.heap.size w w'
theorem mul_cast (a b c : Nat) (h : a * b = c) : ((a : Int) * (b : Int)) = (c : Int) := by rw [← h]; simp
theorem mul_le9 {a b c : Nat} (h : a * b = c) (ha : a ≤ 1000000000) (hb : b ≤ 1000000000) : c ≤ 1000000000000000000 := by
  rw [← h]
  exact Nat.le_trans (Nat.mul_le_mul ha hb) (by decide)

/-- The numerators over the product of the denominators. -/
theorem cross_is (w : World) (a b x y l r : Nat) (hl : a * y = l) (hr : x * b = r) (l1 : l ≤ 1000000000000000000) (r1 : r ≤ 1000000000000000000) (a1 : a ≤ 1000000000) (b1 : b ≤ 1000000000) (x1 : x ≤ 1000000000) (y1 : y ≤ 1000000000) :
    Calls Tryd.prog 20 #[.agg #[.int .i64 (a : Int), .int .i64 (b : Int)], .agg #[.int .i64 (x : Int), .int .i64 (y : Int)]] w fun e w' =>
      e = .returned (.tuple #[.int .i64 (l : Int), .int .i64 (r : Int)]) ∧ Below w.heap.size w w' := by
  have ql := mul_cast a y l hl
  have qr := mul_cast x b r hr
  clear hl hr
  have HB := Lib.hid (Below.refl w.heap.size w)
  go_enter Tryd.func20, Tryd.ntmps20
  go_wp2
  (try go_quiet (fail))
  (try go_wp2)
  refine bodyPost_ret (v := .tuple #[.int .i64 (l : Int), .int .i64 (r : Int)]) (by simp [results, Tryd.results20, go_sem]) rfl ⟨rfl, (by repeat (first | exact HB.out | refine bl_drewN ?_ _ | refine Below.drew ?_ | refine bl_alloc ?_ _ | refine bl_set ?_ (by dsimp only; omega) _))⟩

theorem nan_is (w : World) (x : Int) : Calls Tryd.prog 46 #[.int .i64 x] w fun e w' => e = .returned (.bool false) ∧ Below w.heap.size w w' := by
  have HB := Lib.hid (Below.refl w.heap.size w)
  go_enter Tryd.func46, Tryd.ntmps46
  go_wp2
  (try go_quiet (fail))
  (try go_wp2)
  go_ret
  exact ⟨by first | rfl | simp, (by repeat (first | exact HB.out | refine bl_drewN ?_ _ | refine Below.drew ?_ | refine bl_alloc ?_ _ | refine bl_set ?_ (by dsimp only; omega) _))⟩

theorem compare_is (w : World) (x y z : Int) (h : z = if x < y then -1 else if y < x then 1 else 0) :
    Calls Tryd.prog 24 #[.int .i64 x, .int .i64 y] w (IntRes' z w) := by
  have hz : (x < y ∧ z = -1) ∨ (¬ x < y ∧ y < x ∧ z = 1) ∨ (¬ x < y ∧ ¬ y < x ∧ z = 0) := by
    by_cases h1 : x < y
    · exact .inl ⟨h1, by rw [h, if_pos h1]⟩
    · by_cases h2 : y < x
      · exact .inr (.inl ⟨h1, h2, by rw [h, if_neg h1, if_pos h2]⟩)
      · exact .inr (.inr ⟨h1, h2, by rw [h, if_neg h1, if_neg h2]⟩)
  clear h
  rcases hz with ⟨h1, rfl⟩ | ⟨h1, h2, rfl⟩ | ⟨h1, h2, rfl⟩
  all_goals go_enter Tryd.func24, Tryd.ntmps24
  all_goals go_wp2_with fail
  all_goals refine (nan_is _ x).mono ?_
  all_goals rintro e w1 ⟨rfl, hb⟩
  all_goals have HB1 := Lib.hid (bl_trans (Below.refl _ w) hb)
  all_goals clear hb
  all_goals go_wp2_with fail
  all_goals refine (nan_is _ y).mono ?_
  all_goals rintro e w2 ⟨rfl, hb⟩
  all_goals have HB := Lib.hid (bl_trans HB1.out hb)
  all_goals clear hb HB1
  all_goals go_wp2
  all_goals go_ret
  all_goals exact ⟨rfl, (by repeat (first | exact HB.out | refine bl_drewN ?_ _ | refine Below.drew ?_ | refine bl_alloc ?_ _ | refine bl_set ?_ (by dsimp only; omega) _))⟩

theorem cmp_if {a b x y l r : Nat} (h : Sh a b) (k : Sh x y) (hl : a * y = l) (hr : x * b = r) : cmpS a b x y = if (l : Int) < (r : Int) then -1 else if (r : Int) < (l : Int) then 1 else 0 := by
  rw [cmp_sh h k]
  unfold cmpN
  dsimp only
  rw [hl, hr]
  simp

theorem iCmp_is (w : World) (n d m e : Int) (z : Int) (h : cmpS n d m e = z) :
    Calls Tryd.prog 10 #[.agg #[.int .i64 n, .int .i64 d], .agg #[.int .i64 m, .int .i64 e]] w (IntRes' z w) := by
  cases ha : shB n d
  · obtain rfl : z = 0 := by rw [← h]; exact cmp_left m e ha
    clear h
    have HC := Lib.hid (fun W : World => iShare_is W n d false ha)
    clear ha
    go_enter Tryd.func10, Tryd.ntmps10
    go_wp2_with fail
    refine (HC.out _).mono ?_
    rintro e w1 ⟨rfl, hb1⟩
    have HB := Lib.hid (bl_trans (bl_alloc (bl_alloc (Below.refl _ w) _) _) hb1)
    clear hb1 HC
    go_wp2
    go_ret
    exact ⟨rfl, (by repeat (first | exact HB.out | refine bl_drewN ?_ _ | refine Below.drew ?_ | refine bl_alloc ?_ _ | refine bl_set ?_ (by dsimp only; omega) _))⟩
  cases hc : shB m e
  · obtain rfl : z = 0 := by rw [← h]; exact cmp_right n d hc
    clear h
    have HC := Lib.hid (fun W : World => iShare_is W n d true ha)
    have HD := Lib.hid (fun W : World => iShare_is W m e false hc)
    clear ha hc
    go_enter Tryd.func10, Tryd.ntmps10
    go_wp2_with fail
    refine (HC.out _).mono ?_
    rintro e0 w1 ⟨rfl, hb1⟩
    have HB1 := Lib.hid (bl_trans (bl_alloc (bl_alloc (Below.refl _ w) _) _) hb1)
    have hs1 := hb1.size
    simp at hs1
    have b1 := Lib.hid (((Blk.new w 27 #[.int .i64 n, .int .i64 d]).alloc (.cells #[.int .i64 m, .int .i64 e] 27)) |>.below hb1 (by simp; omega))
    have b2 := Lib.hid ((Blk.new (w.alloc (.cells #[.int .i64 n, .int .i64 d] 27)) 27 #[.int .i64 m, .int .i64 e]) |>.below hb1 (by simp))
    have c1 := b1.out.cell
    have c2 := b2.out.cell
    simp only [World.size_alloc] at c2
    clear hb1 HC
    go_wp2_with fail
    refine (HD.out _).mono ?_
    rintro e0 w2 ⟨rfl, hb2⟩
    have HB := Lib.hid (bl_trans HB1.out hb2)
    clear hb2 HD HB1
    go_wp2
    go_ret
    exact ⟨rfl, (by repeat (first | exact HB.out | refine bl_drewN ?_ _ | refine Below.drew ?_ | refine bl_alloc ?_ _ | refine bl_set ?_ (by dsimp only; omega) _))⟩
  obtain ⟨a, b, rfl, rfl, hA⟩ := sh_of ha
  obtain ⟨x, y, rfl, rfl, hX⟩ := sh_of hc
  have HC := Lib.hid (fun W : World => iShare_is W a b true ha)
  have HD := Lib.hid (fun W : World => iShare_is W x y true hc)
  obtain ⟨a0, a1, a2, a3⟩ := hA
  obtain ⟨x0, x1, x2, x3⟩ := hX
  have HA := Lib.hid (show Sh a b from ⟨a0, a1, a2, a3⟩)
  have HX := Lib.hid (show Sh x y from ⟨x0, x1, x2, x3⟩)
  clear ha hc a3 x3
  obtain ⟨l, hl⟩ : ∃ l, a * y = l := ⟨_, rfl⟩
  obtain ⟨r, hr⟩ : ∃ r, x * b = r := ⟨_, rfl⟩
  have l1 := mul_le9 hl a1 x2
  have r1 := mul_le9 hr x1 a2
  have HK := Lib.hid (fun W : World => cross_is W a b x y l r hl hr l1 r1 a1 a2 x1 x2)
  have HM := Lib.hid (fun W : World => compare_is W l r z (by rw [← h]; exact cmp_if HA.out HX.out hl hr))
  clear hl hr h
  go_enter Tryd.func10, Tryd.ntmps10
  go_wp2_with fail
  refine (HC.out _).mono ?_
  rintro e0 w1 ⟨rfl, hb1⟩
  have HB1 := Lib.hid (bl_trans (bl_alloc (bl_alloc (Below.refl _ w) _) _) hb1)
  have hs1 := hb1.size
  simp at hs1
  have b1 := Lib.hid (((Blk.new w 27 #[.int .i64 (a : Int), .int .i64 (b : Int)]).alloc (.cells #[.int .i64 (x : Int), .int .i64 (y : Int)] 27)) |>.below hb1 (by simp; omega))
  have b2 := Lib.hid ((Blk.new (w.alloc (.cells #[.int .i64 (a : Int), .int .i64 (b : Int)] 27)) 27 #[.int .i64 (x : Int), .int .i64 (y : Int)]) |>.below hb1 (by simp))
  have b2' : Hid (Blk w1 (w.heap.size + 1) 27 #[.int .i64 (x : Int), .int .i64 (y : Int)]) := by have h := b2.out; simp only [World.size_alloc] at h; exact h
  have c1 := b1.out.cell
  have c2 := b2'.out.cell
  clear hb1 HC b2
  go_wp2_with fail
  refine (HD.out _).mono ?_
  rintro e0 w2 ⟨rfl, hb2⟩
  have HB2 := Lib.hid (bl_trans HB1.out hb2)
  have hs2 := hb2.size
  have d1 := Lib.hid (b1.out.below hb2 (by omega))
  have d2 := Lib.hid (b2'.out.below hb2 (by omega))
  clear hb2 HD HB1 c1 c2 b1 b2'
  have c1 := d1.out.cell
  have c2 := d2.out.cell
  go_wp2_with fail
  refine (HK.out _).mono ?_
  rintro e0 w3 ⟨rfl, hb3⟩
  have HB3 := Lib.hid (bl_trans HB2.out hb3)
  clear hb3 HK HB2 c1 c2 d1 d2
  go_wp2_with fail
  refine (HM.out _).mono ?_
  rintro e0 w4 ⟨rfl, hb4⟩
  have HB := Lib.hid (bl_trans HB3.out hb4)
  clear hb4 HM HB3
  go_wp2
  go_ret
  exact ⟨rfl, (by repeat (first | exact HB.out | refine bl_drewN ?_ _ | refine Below.drew ?_ | refine bl_alloc ?_ _ | refine bl_set ?_ (by dsimp only; omega) _))⟩

theorem iAdd_is (w : World) (e0 : Addr) (he : EG w e0) (n d m e : Int) (p q : Nat) (c : Bool) (hp : plusS n d m e = (p, q)) (hb : plusB n d m e = c) :
    Calls Tryd.prog 8 #[.agg #[.int .i64 n, .int .i64 d], .agg #[.int .i64 m, .int .i64 e]] w (MkRes p q c w) := by
  have HE := Lib.hid he
  clear he
  cases ha : shB n d
  · have hpb : plusB n d m e = false := by unfold plusB; rw [ha]; rfl
    obtain rfl : c = false := by rw [← hb]; exact hpb
    rw [plus_no hpb] at hp
    obtain ⟨rfl, rfl⟩ := Prod.mk.inj hp
    clear hp hb hpb
    have HC := Lib.hid (fun W : World => iShare_is W n d false ha)
    clear ha
    go_enter Tryd.func8, Tryd.ntmps8
    go_wp2_with fail
    refine (HC.out _).mono ?_
    rintro e w1 ⟨rfl, hb1⟩
    have HB := Lib.hid (bl_trans (bl_alloc (bl_alloc (bl_alloc (Below.refl _ w) _) _) _) hb1)
    have bR := Lib.hid ((Blk.new ((w.alloc (.cells #[.int .i64 n, .int .i64 d] 27)).alloc (.cells #[.int .i64 m, .int .i64 e] 27)) 27 #[.int .i64 0, .int .i64 0]).below hb1 (by simp))
    have bR' : Hid (Blk w1 (w.heap.size + 1 + 1) 27 #[.int .i64 0, .int .i64 0]) := by have h := bR.out; simp only [World.size_alloc] at h; exact h
    clear bR
    have cR0 := bR'.out.cell
    have fR0 := bR'.out.frozen
    have cR := fun k => (bR'.out.drewN k).cell
    have fR := fun k => (bR'.out.drewN k).frozen
    clear hb1 HC
    go_wp2
    (try go_region)
    all_goals (try go_wp2)
    all_goals refine bodyPost_ret (v := .tuple #[.agg #[.int .i64 0, .int .i64 0], .bool false]) (by simp [results, Tryd.results8, go_sem, cR0]) rfl ⟨rfl, (by repeat (first | exact HB.out | refine bl_drewN ?_ _ | refine Below.drew ?_ | refine bl_alloc ?_ _ | refine bl_set ?_ (by dsimp only; omega) _))⟩
  cases hc : shB m e
  · have hpb : plusB n d m e = false := by unfold plusB; rw [hc]; simp
    obtain rfl : c = false := by rw [← hb]; exact hpb
    rw [plus_no hpb] at hp
    obtain ⟨rfl, rfl⟩ := Prod.mk.inj hp
    clear hp hb hpb
    have HC := Lib.hid (fun W : World => iShare_is W n d true ha)
    have HD := Lib.hid (fun W : World => iShare_is W m e false hc)
    clear ha hc
    go_enter Tryd.func8, Tryd.ntmps8
    go_wp2_with fail
    refine (HC.out _).mono ?_
    rintro e0 w1 ⟨rfl, hb1⟩
    have HB1 := Lib.hid (bl_trans (bl_alloc (bl_alloc (bl_alloc (Below.refl _ w) _) _) _) hb1)
    have hs1 := hb1.size
    simp at hs1
    have b1 := Lib.hid (((Blk.new w 27 #[.int .i64 n, .int .i64 d]).alloc (.cells #[.int .i64 m, .int .i64 e] 27)).alloc (.cells #[.int .i64 0, .int .i64 0] 27) |>.below hb1 (by simp; omega))
    have b2 := Lib.hid ((Blk.new (w.alloc (.cells #[.int .i64 n, .int .i64 d] 27)) 27 #[.int .i64 m, .int .i64 e]).alloc (.cells #[.int .i64 0, .int .i64 0] 27) |>.below hb1 (by simp))
    have c1 := b1.out.cell
    have c2 := b2.out.cell
    simp only [World.size_alloc] at c2
    have bR := Lib.hid ((Blk.new ((w.alloc (.cells #[.int .i64 n, .int .i64 d] 27)).alloc (.cells #[.int .i64 m, .int .i64 e] 27)) 27 #[.int .i64 0, .int .i64 0]).below hb1 (by simp))
    have bR' : Hid (Blk w1 (w.heap.size + 1 + 1) 27 #[.int .i64 0, .int .i64 0]) := by have h := bR.out; simp only [World.size_alloc] at h; exact h
    clear bR
    clear hb1 HC
    go_wp2_with fail
    refine (HD.out _).mono ?_
    rintro e0 w2 ⟨rfl, hb2⟩
    have HB := Lib.hid (bl_trans HB1.out hb2)
    have bR' := Lib.hid (bR'.out.below hb2 (by omega))
    have cR0 := bR'.out.cell
    have fR0 := bR'.out.frozen
    have cR := fun k => (bR'.out.drewN k).cell
    have fR := fun k => (bR'.out.drewN k).frozen
    clear hb2 HD HB1
    go_wp2
    (try go_region)
    all_goals (try go_wp2)
    all_goals refine bodyPost_ret (v := .tuple #[.agg #[.int .i64 0, .int .i64 0], .bool false]) (by simp [results, Tryd.results8, go_sem, cR0]) rfl ⟨rfl, (by repeat (first | exact HB.out | refine bl_drewN ?_ _ | refine Below.drew ?_ | refine bl_alloc ?_ _ | refine bl_set ?_ (by dsimp only; omega) _))⟩
  obtain ⟨a, b, rfl, rfl, hA⟩ := sh_of ha
  obtain ⟨x, y, rfl, rfl, hX⟩ := sh_of hc
  have HC := Lib.hid (fun W : World => iShare_is W a b true ha)
  have HD := Lib.hid (fun W : World => iShare_is W x y true hc)
  obtain ⟨a0, a1, a2, a3⟩ := hA
  obtain ⟨x0, x1, x2, x3⟩ := hX
  have HA := Lib.hid (show Sh a b from ⟨a0, a1, a2, a3⟩)
  have HX := Lib.hid (show Sh x y from ⟨x0, x1, x2, x3⟩)
  clear ha hc a3 x3
  obtain ⟨hq1, hq2⟩ := plus_sh HA.out HX.out
  rw [hq1] at hb
  rw [hq2] at hp
  obtain ⟨l, hl⟩ : ∃ l, a * y = l := ⟨_, rfl⟩
  obtain ⟨r, hr⟩ : ∃ r, x * b = r := ⟨_, rfl⟩
  obtain ⟨k, hk⟩ : ∃ k, b * y = k := ⟨_, rfl⟩
  have l1 := mul_le9 hl a1 x2
  have r1 := mul_le9 hr x1 a2
  have k1 := mul_le9 hk a2 x2
  have k0 : 1 ≤ k := by rw [← hk]; exact Nat.mul_pos a0 x0
  have HK := Lib.hid (fun W : World => cross_is W a b x y l r hl hr l1 r1 a1 a2 x1 x2)
  have hadd : addN (a, b) (x, y) = redN (l + r) k := by unfold addN; dsimp only; rw [hl, hr, hk]
  have qk := mul_cast b y k hk
  rw [hadd] at hp
  unfold addB at hb
  rw [hadd] at hb
  clear hl hr hk hq1 hq2
  obtain ⟨u, v, huv⟩ : ∃ u v, redN (l + r) k = (u, v) := ⟨_, _, rfl⟩
  have hzb : addB (a, b) (x, y) = (decide (u ≤ 1000000000) && decide (v ≤ 1000000000)) := by unfold addB; rw [hadd, huv]
  rw [huv] at hb hp
  rw [hzb] at hp
  dsimp only at hb hp
  by_cases hz : u ≤ 1000000000 ∧ v ≤ 1000000000
  · obtain rfl : c = true := by rw [← hb]; simp [hz]
    rw [show (decide (u ≤ 1000000000) && decide (v ≤ 1000000000)) = true by simp [hz]] at hp
    obtain ⟨rfl, rfl⟩ := Prod.mk.inj (show (u, v) = (p, q) from hp)
    obtain ⟨z1, z2⟩ := hz
    have HL := Lib.hid (fun (W : World) (s t : Int) (h1 : s = ((l + r : Nat) : Int)) (h2 : t = (k : Int)) => lowest_fits W s t (l + r) k u v h1 h2 (by omega) k0 (by omega) huv z1 z2)
    clear hp hb hzb hadd huv
    go_enter Tryd.func8, Tryd.ntmps8
    go_wp2_with fail
    refine (HC.out _).mono ?_
    rintro e0 w1 ⟨rfl, hb1⟩
    have HB1 := Lib.hid (bl_trans (bl_alloc (bl_alloc (bl_alloc (Below.refl _ w) _) _) _) hb1)
    have hs1 := hb1.size
    simp at hs1
    have b1 := Lib.hid (((Blk.new w 27 #[.int .i64 (a : Int), .int .i64 (b : Int)]).alloc (.cells #[.int .i64 (x : Int), .int .i64 (y : Int)] 27)).alloc (.cells #[.int .i64 0, .int .i64 0] 27) |>.below hb1 (by simp; omega))
    have b2 := Lib.hid ((Blk.new (w.alloc (.cells #[.int .i64 (a : Int), .int .i64 (b : Int)] 27)) 27 #[.int .i64 (x : Int), .int .i64 (y : Int)]).alloc (.cells #[.int .i64 0, .int .i64 0] 27) |>.below hb1 (by simp))
    have b2' : Hid (Blk w1 (w.heap.size + 1) 27 #[.int .i64 (x : Int), .int .i64 (y : Int)]) := by have h := b2.out; simp only [World.size_alloc] at h; exact h
    have c1 := b1.out.cell
    have c2 := b2'.out.cell
    have bR := Lib.hid ((Blk.new ((w.alloc (.cells #[.int .i64 (a : Int), .int .i64 (b : Int)] 27)).alloc (.cells #[.int .i64 (x : Int), .int .i64 (y : Int)] 27)) 27 #[.int .i64 0, .int .i64 0]).below hb1 (by simp))
    have bR' : Hid (Blk w1 (w.heap.size + 1 + 1) 27 #[.int .i64 0, .int .i64 0]) := by have h := bR.out; simp only [World.size_alloc] at h; exact h
    clear bR
    clear hb1 HC b2
    go_wp2_with fail
    refine (HD.out _).mono ?_
    rintro e0 w2 ⟨rfl, hb2⟩
    have HB2 := Lib.hid (bl_trans HB1.out hb2)
    have hs2 := hb2.size
    have d1 := Lib.hid (b1.out.below hb2 (by omega))
    have d2 := Lib.hid (b2'.out.below hb2 (by omega))
    have bR2 := Lib.hid (bR'.out.below hb2 (by omega))
    clear bR'
    clear hb2 HD HB1 c1 c2 b1 b2'
    have c1 := d1.out.cell
    have c2 := d2.out.cell
    go_wp2_with fail
    refine (HK.out _).mono ?_
    rintro e1 w3 ⟨rfl, hb3⟩
    have HB3 := Lib.hid (bl_trans HB2.out hb3)
    have hs3 := hb3.size
    have f1 := Lib.hid (d1.out.below hb3 (by omega))
    have f2 := Lib.hid (d2.out.below hb3 (by omega))
    have bR3 := Lib.hid (bR2.out.below hb3 (by omega))
    clear hb3 HK HB2 c1 c2 d1 d2 bR2
    have c1 := f1.out.cell
    have c2 := f2.out.cell
    go_wp2_with fail
    refine (HL.out _ _ _ (by first | rfl | (simp; done) | omega) (by first | rfl | exact qk | omega)).mono ?_
    rintro e1 w4 ⟨rfl, hb4⟩
    have HB4 := Lib.hid (bl_trans HB3.out hb4)
    have hE : EG w4 e0 := HE.out.below HB4.out
    unfold EG at hE
    have hs4 := hb4.size
    have bR' := Lib.hid (bR3.out.below hb4 (by omega))
    have hEo : ∀ o, EG (w4.alloc o) e0 := fun o => EG.alloc hE o
    unfold EG at hEo
    have cR0 := bR'.out.cell
    have fR0 := bR'.out.frozen
    have cRo := fun o => (bR'.out.alloc o).cell
    have fRo := fun o => (bR'.out.alloc o).frozen
    have hlR : w.heap.size + 1 + 1 < w4.heap.size := bR'.out.lt
    have cF := fun (s t : Value) o => (Blk.alloc ((bR'.out.set_ 0 s).set_ 1 t) o).cell
    clear hb4 HL HB3 c1 c2 f1 f2 bR3
    go_wp2_with fail
    refine (is_nil e0 _).mono ?_
    rintro e1 w5 ⟨rfl, rfl⟩
    have HB := HB4
    go_wp2
    (try go_region)
    all_goals (try go_wp2)
    all_goals refine bodyPost_ret (v := .tuple #[.agg #[.int .i64 (u : Int), .int .i64 (v : Int)], .bool true]) (by simp [results, Tryd.results8, go_sem, cF]) rfl ⟨rfl, (by repeat (first | exact HB.out | refine bl_drewN ?_ _ | refine Below.drew ?_ | refine bl_alloc ?_ _ | refine bl_set ?_ (by dsimp only; omega) _))⟩
  · obtain rfl : c = false := by rw [← hb]; simp; omega
    rw [show (decide (u ≤ 1000000000) && decide (v ≤ 1000000000)) = false by simp; omega] at hp
    obtain ⟨rfl, rfl⟩ := Prod.mk.inj (show (0, 0) = (p, q) from hp)
    have HL := Lib.hid (fun (W : World) (he : EG W e0) (s t : Int) (h1 : s = ((l + r : Nat) : Int)) (h2 : t = (k : Int)) => lowest_great W e0 he s t (l + r) k u v h1 h2 (by omega) k0 (by omega) huv (by omega))
    clear hp hb hzb hadd huv hz
    go_enter Tryd.func8, Tryd.ntmps8
    go_wp2_with fail
    refine (HC.out _).mono ?_
    rintro e0 w1 ⟨rfl, hb1⟩
    have HB1 := Lib.hid (bl_trans (bl_alloc (bl_alloc (bl_alloc (Below.refl _ w) _) _) _) hb1)
    have hs1 := hb1.size
    simp at hs1
    have b1 := Lib.hid (((Blk.new w 27 #[.int .i64 (a : Int), .int .i64 (b : Int)]).alloc (.cells #[.int .i64 (x : Int), .int .i64 (y : Int)] 27)).alloc (.cells #[.int .i64 0, .int .i64 0] 27) |>.below hb1 (by simp; omega))
    have b2 := Lib.hid ((Blk.new (w.alloc (.cells #[.int .i64 (a : Int), .int .i64 (b : Int)] 27)) 27 #[.int .i64 (x : Int), .int .i64 (y : Int)]).alloc (.cells #[.int .i64 0, .int .i64 0] 27) |>.below hb1 (by simp))
    have b2' : Hid (Blk w1 (w.heap.size + 1) 27 #[.int .i64 (x : Int), .int .i64 (y : Int)]) := by have h := b2.out; simp only [World.size_alloc] at h; exact h
    have c1 := b1.out.cell
    have c2 := b2'.out.cell
    have bR := Lib.hid ((Blk.new ((w.alloc (.cells #[.int .i64 (a : Int), .int .i64 (b : Int)] 27)).alloc (.cells #[.int .i64 (x : Int), .int .i64 (y : Int)] 27)) 27 #[.int .i64 0, .int .i64 0]).below hb1 (by simp))
    have bR' : Hid (Blk w1 (w.heap.size + 1 + 1) 27 #[.int .i64 0, .int .i64 0]) := by have h := bR.out; simp only [World.size_alloc] at h; exact h
    clear bR
    clear hb1 HC b2
    go_wp2_with fail
    refine (HD.out _).mono ?_
    rintro e0 w2 ⟨rfl, hb2⟩
    have HB2 := Lib.hid (bl_trans HB1.out hb2)
    have hs2 := hb2.size
    have d1 := Lib.hid (b1.out.below hb2 (by omega))
    have d2 := Lib.hid (b2'.out.below hb2 (by omega))
    have bR2 := Lib.hid (bR'.out.below hb2 (by omega))
    clear bR'
    clear hb2 HD HB1 c1 c2 b1 b2'
    have c1 := d1.out.cell
    have c2 := d2.out.cell
    go_wp2_with fail
    refine (HK.out _).mono ?_
    rintro e1 w3 ⟨rfl, hb3⟩
    have HB3 := Lib.hid (bl_trans HB2.out hb3)
    have hs3 := hb3.size
    have f1 := Lib.hid (d1.out.below hb3 (by omega))
    have f2 := Lib.hid (d2.out.below hb3 (by omega))
    have bR3 := Lib.hid (bR2.out.below hb3 (by omega))
    clear hb3 HK HB2 c1 c2 d1 d2 bR2
    have c1 := f1.out.cell
    have c2 := f2.out.cell
    go_wp2_with fail
    refine (HL.out _ (HE.out.below HB3.out) _ _ (by first | rfl | (simp; done) | omega) (by first | rfl | exact qk | omega)).mono ?_
    rintro e1 w4 ⟨rfl, hb4⟩
    have HB4 := Lib.hid (bl_trans HB3.out hb4)
    have hE : EG w4 e0 := HE.out.below HB4.out
    unfold EG at hE
    have hs4 := hb4.size
    have bR' := Lib.hid (bR3.out.below hb4 (by omega))
    have hEo : ∀ o, EG (w4.alloc o) e0 := fun o => EG.alloc hE o
    unfold EG at hEo
    have cR0 := bR'.out.cell
    have fR0 := bR'.out.frozen
    have cRo := fun o => (bR'.out.alloc o).cell
    have fRo := fun o => (bR'.out.alloc o).frozen
    have hlR : w.heap.size + 1 + 1 < w4.heap.size := bR'.out.lt
    have cF := fun (s t : Value) o => (Blk.alloc ((bR'.out.set_ 0 s).set_ 1 t) o).cell
    clear hb4 HL HB3 c1 c2 f1 f2 bR3
    go_wp2_with fail
    refine (is_same e0 _).mono ?_
    rintro e1 w5 ⟨rfl, rfl⟩
    have HB := HB4
    go_wp2
    (try go_region)
    all_goals (try go_wp2)
    all_goals refine bodyPost_ret (v := .tuple #[.agg #[.int .i64 0, .int .i64 0], .bool false]) (by simp [results, Tryd.results8, go_sem, cF]) rfl ⟨rfl, (by repeat (first | exact HB.out | refine bl_drewN ?_ _ | refine Below.drew ?_ | refine bl_alloc ?_ _ | refine bl_set ?_ (by dsimp only; omega) _))⟩

end Go.Proofs.YtncgchlnaobalabDoor
