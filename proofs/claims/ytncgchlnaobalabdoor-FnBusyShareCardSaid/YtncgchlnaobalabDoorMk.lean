/- Contracts of MakeShare and ShareValid, in the program and in the reference: the fraction in lowest terms; whether a share is in lowest terms. Nothing that was there is written. -/
import Derived.Test.YtncgchlnaobalabDoorGcd
import Derived.Test.YtncgchlnaobalabDoorShareC
import Derived.Test.YtncgchlnaobalabDoorErr
import Derived.RegionTactic
import Derived.ChangeAlike
namespace Go.Proofs.YtncgchlnaobalabDoor
open Go.RowKit

theorem div_cast (a g : Nat) : ((a : Int) / (g : Int)) = ((a / g : Nat) : Int) := by simp
theorem red_pair {a b p q : Nat} (h : redN a b = (p, q)) : a / Nat.gcd a b = p ∧ b / Nat.gcd a b = q := by
  unfold redN at h
  exact ⟨(Prod.mk.inj h).1, (Prod.mk.inj h).2⟩

/-- What making or adding returns. -/
def MkRes (p q : Nat) (b : Bool) (w : World) (e : Ending) (w' : World) : Prop :=
  e = .returned (.tuple #[.agg #[.int .i64 (p : Int), .int .i64 (q : Int)], .bool b]) ∧ Below w.heap.size w w'
def BoolRes (b : Bool) (w : World) (e : Ending) (w' : World) : Prop := e = .returned (.bool b) ∧ Below w.heap.size w w'

set_option maxHeartbeats 1000000 in
/-- inLowestTerms, where the numbers are not too great. -/
theorem lowest_fits (w : World) (s t : Int) (a b p q : Nat) (hs : s = (a : Int)) (ht : t = (b : Int)) (ha : a ≤ 4611686018427387904) (hb0 : 1 ≤ b) (hb : b ≤ 4611686018427387904) (hr : redN a b = (p, q)) (h1 : p ≤ 1000000000) (h2 : q ≤ 1000000000) :
    Calls Tryd.prog 21 #[.int .i64 s, .int .i64 t] w fun e w' =>
      e = .returned (.tuple #[.agg #[.int .i64 (p : Int), .int .i64 (q : Int)], .nilIface]) ∧ Below w.heap.size w w' := by
  subst hs ht
  have g1 : 1 ≤ Nat.gcd a b := Nat.gcd_pos_of_pos_right a hb0
  obtain ⟨hx, hy⟩ := red_pair hr
  have qx : ((a : Int) / ((Nat.gcd a b : Nat) : Int)) = (p : Int) := by rw [div_cast, hx]
  have qy : ((b : Int) / ((Nat.gcd a b : Nat) : Int)) = (q : Int) := by rw [div_cast, hy]
  have HC := Lib.hid (fun W : World => iGcd_big W a b ha hb)
  clear hx hy hr
  go_enter Tryd.func21, Tryd.ntmps21
  go_wp2_with fail
  refine (HC.out _).mono ?_
  rintro e w1 ⟨rfl, hb1⟩
  have HB := Lib.hid (bl_trans (bl_alloc (Below.refl _ w) _) hb1)
  have bR := (Blk.new w 27 #[.int .i64 0, .int .i64 0]).below hb1 (by simp)
  have cR := bR.cell
  have fR := bR.frozen
  clear hb1 HC
  generalize Nat.gcd a b = g at *
  go_wp2
  (try go_quiet (fail))
  (try go_wp2)
  refine bodyPost_ret (v := .tuple #[.agg #[.int .i64 (p : Int), .int .i64 (q : Int)], .nilIface]) (by simp [results, Tryd.results21, go_sem, cR]) rfl ⟨rfl, (by repeat (first | exact HB.out | refine bl_drewN ?_ _ | refine Below.drew ?_ | refine bl_alloc ?_ _ | refine bl_set ?_ (by dsimp only; omega) _))⟩

set_option maxHeartbeats 1000000 in
/-- inLowestTerms, where a number is too great. -/
theorem lowest_great (w : World) (e0 : Addr) (he : EG w e0) (s t : Int) (a b p q : Nat) (hs : s = (a : Int)) (ht : t = (b : Int)) (ha : a ≤ 4611686018427387904) (hb0 : 1 ≤ b) (hb : b ≤ 4611686018427387904) (hr : redN a b = (p, q)) (h1 : 1000000000 < p ∨ 1000000000 < q) :
    Calls Tryd.prog 21 #[.int .i64 s, .int .i64 t] w fun e w' =>
      e = .returned (.tuple #[.agg #[.int .i64 0, .int .i64 0], .iface 90 (.pointer (some e0))]) ∧ Below w.heap.size w w' := by
  subst hs ht
  have g1 : 1 ≤ Nat.gcd a b := Nat.gcd_pos_of_pos_right a hb0
  obtain ⟨hx, hy⟩ := red_pair hr
  have qx : ((a : Int) / ((Nat.gcd a b : Nat) : Int)) = (p : Int) := by rw [div_cast, hx]
  have qy : ((b : Int) / ((Nat.gcd a b : Nat) : Int)) = (q : Int) := by rw [div_cast, hy]
  have HC := Lib.hid (fun W : World => iGcd_big W a b ha hb)
  have HE := Lib.hid he
  have pb : p ≤ 4611686018427387904 := by rw [← hx]; exact Nat.le_trans (Nat.div_le_self _ _) ha
  have qb : q ≤ 4611686018427387904 := by rw [← hy]; exact Nat.le_trans (Nat.div_le_self _ _) hb
  clear hx hy hr he
  go_enter Tryd.func21, Tryd.ntmps21
  go_wp2_with fail
  refine (HC.out _).mono ?_
  rintro e w1 ⟨rfl, hb1⟩
  have HB := Lib.hid (bl_trans (bl_alloc (Below.refl _ w) _) hb1)
  have bR := (Blk.new w 27 #[.int .i64 0, .int .i64 0]).below hb1 (by simp)
  have cR := fun k => (bR.drewN k).cell
  have fR := fun k => (bR.drewN k).frozen
  have hE0 : EG w1 e0 := HE.out.below HB.out
  have hE := fun k : Nat => (show (w1.drewN k).cell? ⟨0, 0, none⟩ = some (.iface 90 (.pointer (some e0))) from hE0)
  clear hb1 HC
  generalize Nat.gcd a b = g at *
  have h0 : 0 ≠ w.heap.size := by have := HE.out.lt; omega
  have hE2 := fun (k : Nat) (u v : Value) => (EG.set (EG.set (EG.drewN hE0 k) (p := ⟨w.heap.size, 0, none⟩) h0 u) (p := ⟨w.heap.size, 1, none⟩) h0 v : EG (((w1.drewN k).setCell ⟨w.heap.size, 0, none⟩ u).setCell ⟨w.heap.size, 1, none⟩ v) e0)
  unfold EG at hE2
  by_cases h3 : 1000000000 < p
  · have h4 : 1000000000 < p := h3
    go_wp2
    go_quiet (fail)
    go_wp2
    go_region
    all_goals go_wp2
    all_goals refine bodyPost_ret (v := .tuple #[.agg #[.int .i64 0, .int .i64 0], .iface 90 (.pointer (some e0))]) (by simp [results, Tryd.results21, go_sem, cR]) rfl ⟨rfl, (by repeat (first | exact HB.out | refine bl_drewN ?_ _ | refine Below.drew ?_ | refine bl_alloc ?_ _ | refine bl_set ?_ (by dsimp only; omega) _))⟩
  · have h4 : 1000000000 < q := by omega
    go_wp2
    go_quiet (fail)
    go_wp2
    go_region
    all_goals go_wp2
    all_goals refine bodyPost_ret (v := .tuple #[.agg #[.int .i64 0, .int .i64 0], .iface 90 (.pointer (some e0))]) (by simp [results, Tryd.results21, go_sem, cR]) rfl ⟨rfl, (by repeat (first | exact HB.out | refine bl_drewN ?_ _ | refine Below.drew ?_ | refine bl_alloc ?_ _ | refine bl_set ?_ (by dsimp only; omega) _))⟩

set_option maxHeartbeats 1000000 in
theorem iMake_is (w : World) (n d : Int) (p q : Nat) (b : Bool) (hp : mkS n d = (p, q)) (hb : mkB n d = b) :
    Calls Tryd.prog 42 #[.int .i64 n, .int .i64 d] w (MkRes p q b w) := by
  cases b
  · rw [mkS_no hb] at hp
    obtain ⟨rfl, rfl⟩ := Prod.mk.inj hp
    clear hp
    rcases mk_no hb with h | h | h | h
    all_goals clear hb
    all_goals go_enter Tryd.func42, Tryd.ntmps42
    all_goals go_wp2
    all_goals refine bodyPost_ret (v := .tuple #[.agg #[.int .i64 0, .int .i64 0], .bool false]) (by simp [results, Tryd.results42, go_sem]) rfl ⟨rfl, by repeat (first | exact Below.refl _ _ | refine bl_alloc ?_ _ | refine bl_set ?_ (by dsimp only; omega) _)⟩
  · obtain ⟨a, c, rfl, rfl, h1, h2, h3⟩ := mk_nat hb
    rw [mkS_nat h1 h2 h3] at hp
    have hs := sh_red h1 h2 h3
    rw [hp] at hs
    obtain ⟨_, hp1, hp2, _⟩ := hs
    dsimp only at hp1 hp2
    have HC := Lib.hid (fun W : World => lowest_fits W a c a c p q rfl rfl (by omega) h2 (by omega) hp hp1 hp2)
    clear hb hp
    go_enter Tryd.func42, Tryd.ntmps42
    go_wp2_with fail
    refine (HC.out _).mono ?_
    rintro e w1 ⟨rfl, hb1⟩
    have HB := Lib.hid (bl_trans (bl_alloc (Below.refl _ w) _) hb1)
    have bR := (Blk.new w 27 #[.int .i64 0, .int .i64 0]).below hb1 (by simp)
    have cR := fun o => (bR.alloc o).cell
    have fR := fun o => (bR.alloc o).frozen
    clear hb1 HC
    go_wp2
    go_region
    all_goals go_wp2
    all_goals refine bodyPost_ret (v := .tuple #[.agg #[.int .i64 (p : Int), .int .i64 (q : Int)], .bool true]) (by simp [results, Tryd.results42, go_sem, cR]) rfl ⟨rfl, (by repeat (first | exact HB.out | refine bl_drewN ?_ _ | refine Below.drew ?_ | refine bl_alloc ?_ _ | refine bl_set ?_ (by dsimp only; omega) _))⟩

set_option maxHeartbeats 1000000 in
theorem iShare_is (w : World) (n d : Int) (b : Bool) (h : shB n d = b) :
    Calls Tryd.prog 19 #[.agg #[.int .i64 n, .int .i64 d]] w (BoolRes b w) := by
  cases hm : mkB n d
  · obtain rfl : b = false := by rw [← h]; unfold shB; rw [hm]; rfl
    have HC := Lib.hid (fun W : World => iMake_is W n d 0 0 false (mkS_no hm) hm)
    clear h hm
    go_enter Tryd.func19, Tryd.ntmps19
    go_wp2_with fail
    refine (HC.out _).mono ?_
    rintro e w1 ⟨rfl, hb1⟩
    have HB := Lib.hid (bl_trans (bl_alloc (Below.refl _ w) _) hb1)
    have bS : Blk w1 w.heap.size 27 #[.int .i64 n, .int .i64 d] := (Blk.new w _ _).below hb1 (by simp)
    have cS := fun o => (bS.alloc o).cell
    clear hb1 HC
    go_wp2
    (try go_quiet (fail))
    (try go_wp2)
    go_ret
    exact ⟨rfl, (by repeat (first | exact HB.out | refine bl_drewN ?_ _ | refine Below.drew ?_ | refine bl_alloc ?_ _ | refine bl_set ?_ (by dsimp only; omega) _))⟩
  · obtain ⟨a, c, rfl, rfl, h1, h2, h3⟩ := mk_nat hm
    obtain ⟨p, q, hp⟩ : ∃ p q, mkS (a : Int) (c : Int) = (p, q) := ⟨_, _, rfl⟩
    have HC := Lib.hid (fun W : World => iMake_is W a c p q true hp hm)
    rw [mkS_nat h1 h2 h3] at hp
    obtain ⟨hx, hy⟩ := red_pair hp
    have hb : b = (Nat.gcd a c == 1) := by rw [← h]; unfold shB; rw [hm]; simp
    clear h hm hp
    go_enter Tryd.func19, Tryd.ntmps19
    go_wp2_with fail
    refine (HC.out _).mono ?_
    rintro e w1 ⟨rfl, hb1⟩
    have HB := Lib.hid (bl_trans (bl_alloc (Below.refl _ w) _) hb1)
    have bS : Blk w1 w.heap.size 27 #[.int .i64 (a : Int), .int .i64 (c : Int)] := (Blk.new w _ _).below hb1 (by simp)
    have cS := fun o => (bS.alloc o).cell
    clear hb1 HC
    by_cases hg : Nat.gcd a c = 1
    · rw [hg, Nat.div_one] at hx hy
      subst hx hy
      obtain rfl : b = true := by rw [hb, hg]; rfl
      clear hg hb
      go_wp2
      (try go_quiet (fail))
      (try go_wp2)
      go_ret
      exact ⟨rfl, (by repeat (first | exact HB.out | refine bl_drewN ?_ _ | refine Below.drew ?_ | refine bl_alloc ?_ _ | refine bl_set ?_ (by dsimp only; omega) _))⟩
    · obtain rfl : b = false := by rw [hb]; simp [hg]
      have hq : ¬ q = c := fun e => hg (gcd_one (by omega) (by rw [hy, e]))
      have hq' : ((q : Int) == (c : Int)) = false := by simp; omega
      have hq2 : ¬ (q : Int) = (c : Int) := by omega
      clear hx hy hg hb hq
      by_cases hpa : p = a
      · subst hpa
        go_wp2
        (try go_quiet (fail))
        (try go_wp2)
        go_ret
        exact ⟨rfl, (by repeat (first | exact HB.out | refine bl_drewN ?_ _ | refine Below.drew ?_ | refine bl_alloc ?_ _ | refine bl_set ?_ (by dsimp only; omega) _))⟩
      · have hp' : ((p : Int) == (a : Int)) = false := by simp; omega
        have hp2 : ¬ (p : Int) = (a : Int) := by omega
        clear hpa
        go_wp2
        (try go_quiet (fail))
        (try go_wp2)
        go_ret
        exact ⟨rfl, (by repeat (first | exact HB.out | refine bl_drewN ?_ _ | refine Below.drew ?_ | refine bl_alloc ?_ _ | refine bl_set ?_ (by dsimp only; omega) _))⟩

end Go.Proofs.YtncgchlnaobalabDoor
