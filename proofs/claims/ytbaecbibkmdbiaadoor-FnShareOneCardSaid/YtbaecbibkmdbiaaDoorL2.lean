/- Contract of the reference's sum of two shares. Nothing that was there is written. -/
import Derived.Test.YtbaecbibkmdbiaaDoorAdd
import Derived.RegionTactic
import Derived.ChangeAlike
import Derived.Deep.RegionWith
namespace Go.Proofs.YtbaecbibkmdbiaaDoor
open Go.RowKit
set_option linter.unusedVariables false

set_option maxHeartbeats 1000000 in
theorem l2_is (w : World) (a b x y p q : Nat) (c : Bool) (hA : Sh a b) (hX : Sh x y) (hp : plusS a b x y = (p, q)) (hb : plusB a b x y = c) :
    Calls Tryd.prog 36 #[.agg #[.int .i64 (a : Int), .int .i64 (b : Int)], .agg #[.int .i64 (x : Int), .int .i64 (y : Int)]] w (MkRes p q c w) := by
  obtain ⟨hq1, hq2⟩ := plus_sh hA hX
  rw [hq1] at hb
  rw [hq2] at hp
  obtain ⟨g, hg⟩ : ∃ g, Nat.gcd b y = g := ⟨_, rfl⟩
  have g1 : 1 ≤ g := by rw [← hg]; exact Nat.gcd_pos_of_pos_left _ hA.pos
  obtain ⟨bg, hbg⟩ : ∃ k, b / g = k := ⟨_, rfl⟩
  obtain ⟨yg, hyg⟩ : ∃ k, y / g = k := ⟨_, rfl⟩
  have bg1 : bg ≤ 1000000000 := by rw [← hbg]; exact Nat.le_trans (Nat.div_le_self _ _) hA.den
  have yg1 : yg ≤ 1000000000 := by rw [← hyg]; exact Nat.le_trans (Nat.div_le_self _ _) hX.den
  have bg0 : 1 ≤ bg := by rw [← hbg, ← hg]; exact Nat.div_pos (Nat.le_of_dvd hA.pos (Nat.gcd_dvd_left b y)) (Nat.gcd_pos_of_pos_left _ hA.pos)
  obtain ⟨k, hk⟩ : ∃ k, bg * y = k := ⟨_, rfl⟩
  obtain ⟨l, hl⟩ : ∃ l, a * yg = l := ⟨_, rfl⟩
  obtain ⟨r, hr⟩ : ∃ r, x * bg = r := ⟨_, rfl⟩
  have k1 := mul_le9 hk bg1 hX.den
  have l1 := mul_le9 hl hA.num yg1
  have r1 := mul_le9 hr hX.num bg1
  have k0 : 1 ≤ k := by rw [← hk]; exact Nat.mul_pos bg0 hX.pos
  have hadd : addN (a, b) (x, y) = redN (l + r) k := by
    have := add_ref (a := (a, b)) (b := (x, y)) hA.pos hX.pos
    dsimp only at this
    rw [hg, hbg, hyg, hk, hl, hr] at this
    exact this.symm
  obtain ⟨h, hh⟩ : ∃ h, Nat.gcd (l + r) k = h := ⟨_, rfl⟩
  have h1 : 1 ≤ h := by rw [← hh]; exact Nat.gcd_pos_of_pos_right _ k0
  obtain ⟨u, v, huv⟩ : ∃ u v, redN (l + r) k = (u, v) := ⟨_, _, rfl⟩
  obtain ⟨hu, hv⟩ := red_pair huv
  rw [hh] at hu hv
  have hv0 : 0 < v := by have := red_pos (n := l + r) (d := k) k0; rw [huv] at this; exact this
  have hcop : Nat.gcd u v = 1 := by have := red_cop (n := l + r) (d := k) k0; rw [huv] at this; exact this
  have hzb : addB (a, b) (x, y) = (decide (u ≤ 1000000000) && decide (v ≤ 1000000000)) := by unfold addB; rw [hadd, huv]
  have hmb : mkB (u : Int) (v : Int) = c := by
    rw [← hb, hzb]
    unfold mkB
    have e1 : decide ((0 : Int) ≤ (u : Int)) = true := by simp
    have e2 : decide ((1 : Int) ≤ (v : Int)) = true := by simp; omega
    rw [e1, e2, Bool.true_and, Bool.true_and]
    congr 1 <;> (apply decide_eq_decide.2; omega)
  have hms : mkS (u : Int) (v : Int) = (p, q) := by
    rw [← hp, hb]
    cases c
    · exact mkS_no hmb
    · unfold mkS
      rw [hmb]
      show redN (Int.toNat u) (Int.toNat v) = if true = true then _ else _
      rw [if_pos rfl, hadd, huv, Int.toNat_natCast, Int.toNat_natCast]
      exact red_of_cop hcop
  have qbg : ((b : Int) / (g : Int)) = (bg : Int) := by rw [div_cast, hbg]
  have qyg : ((y : Int) / (g : Int)) = (yg : Int) := by rw [div_cast, hyg]
  have qk := mul_cast bg y k hk
  have ql := mul_cast a yg l hl
  have qr := mul_cast x bg r hr
  have qu : (((l : Int) + (r : Int)) / (h : Int)) = (u : Int) := by rw [← hu]; simp
  have qv : ((k : Int) / (h : Int)) = (v : Int) := by rw [div_cast, hv]
  have u1 : u ≤ 2000000000000000000 := by rw [← hu]; exact Nat.le_trans (Nat.div_le_self _ _) (by omega)
  have v1 : v ≤ 1000000000000000000 := by rw [← hv]; exact Nat.le_trans (Nat.div_le_self _ _) k1
  have kv : IntKind.i64.wrap (v : Int) = (v : Int) := IntWalk.i64_in _ (by omega)
  have ku : IntKind.i64.wrap (u : Int) = (u : Int) := IntWalk.i64_in _ (by clear kv; omega)
  have hnn : 0 ≤ (l : Int) + (r : Int) := by omega
  have qt : Int.tdiv ((l : Int) + (r : Int)) (h : Int) = (u : Int) := by rw [Int.tdiv_eq_ediv_of_nonneg hnn]; exact qu
  have hz1 : ¬ (h : Int) = 0 := by omega
  have hz2 : ((h : Int) == 0) = false := by simp; omega
  have HG1 := Lib.hid (fun W : World => (by rw [← hg]; exact sGcd_big W b y (by have := hA.den; omega) (by have := hX.den; omega) : Calls Tryd.prog 52 #[.int .i64 b, .int .i64 y] W fun e w' => e = .returned (.int .i64 g) ∧ w' = W))
  have HG2 := Lib.hid (fun (W : World) (s t : Int) (h1 : s = (k : Int)) (h2 : t = ((l + r : Nat) : Int)) => (by subst h1 h2; rw [← hh, Nat.gcd_comm]; exact (sGcd_big W k (l + r) (by omega) (by omega)).mono (fun e w' hh => ⟨hh.1, by rw [hh.2]; exact Below.refl _ _⟩) : Calls Tryd.prog 52 #[.int .i64 s, .int .i64 t] W fun e w' => e = .returned (.int .i64 h) ∧ Below W.heap.size W w'))
  have HM := Lib.hid (fun W : World => sMake_is W u v p q c hms hmb)
  obtain ⟨a0, a1, a2, _⟩ := hA
  obtain ⟨x0, x1, x2, _⟩ := hX
  have bR0 : Hid (Blk (((w.alloc (.cells #[.int .i64 (a : Int), .int .i64 (b : Int)] 27)).alloc (.cells #[.int .i64 (x : Int), .int .i64 (y : Int)] 27)).alloc (.cells #[.int .i64 0, .int .i64 0] 27)) (w.heap.size + 1 + 1) 27 #[.int .i64 0, .int .i64 0]) := by
    have h := Blk.new ((w.alloc (.cells #[.int .i64 (a : Int), .int .i64 (b : Int)] 27)).alloc (.cells #[.int .i64 (x : Int), .int .i64 (y : Int)] 27)) 27 #[.int .i64 0, .int .i64 0]
    simp only [World.size_alloc] at h
    exact h
  clear hms hmb hzb hcop hu hv huv hadd hh hk hl hr hbg hyg hg hp hb hq1 hq2
  go_enter Tryd.func36, Tryd.ntmps36
  go_wp2_with fail
  refine (HG1.out _).mono ?_
  rintro e w1 ⟨rfl, rfl⟩
  clear HG1
  go_wp2
  go_quiet (fail)
  go_wp2
  go_quiet (fail)
  go_wp2_with fail
  refine (HG2.out _ _ _ (by first | rfl | (simp; done) | omega) (by first | rfl | (simp; done) | omega)).mono ?_
  rintro e w3 ⟨rfl, hb3⟩
  have HB3 := Lib.hid (show Below w.heap.size w w3 from bl_from (by repeat (first | exact Below.refl w.heap.size w | refine bl_drewN ?_ _ | refine Below.drew ?_ | refine bl_alloc ?_ _)) hb3)
  have bR3 := Lib.hid (Blk.below (by exact bR0.out) hb3 (by exact bR0.out.lt))
  clear HG2 hb3 bR0
  go_wp2
  go_region_with (go_at_call 35; refine (HM.out _).mono ?_; rintro e w2 ⟨rfl, hb⟩; have hb3' : Below w3.heap.size w3 w2 := ⟨hb.os, hb.tape, hb.output, hb.size, hb.block⟩; have HB2 := Lib.hid (bl_trans HB3.out hb3'); have bR := bR3.out.below hb3' bR3.out.lt; have cR := bR.cell; have fR := bR.frozen; clear hb hb3' bR)
  all_goals go_wp2
  all_goals refine bodyPost_ret (v := .tuple #[.agg #[.int .i64 (p : Int), .int .i64 (q : Int)], .bool c]) (by simp [results, Tryd.results36, go_sem, cR]) rfl ⟨rfl, (by repeat (first | exact HB2.out | refine bl_drewN ?_ _ | refine Below.drew ?_ | refine bl_alloc ?_ _ | refine bl_set ?_ (by dsimp only; omega) _))⟩

end Go.Proofs.YtbaecbibkmdbiaaDoor
