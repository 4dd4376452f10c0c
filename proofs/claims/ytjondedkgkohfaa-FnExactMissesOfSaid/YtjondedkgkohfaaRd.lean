/- Contracts of the reader of random bytes in the reference: pick(n) returns a number from 0 to n-1 and moves the reader on by one; nothing else that was there is written. -/
import Derived.Test.YtjondedkgkohfaaProg
import Derived.WalkKit
import Derived.WalkSpells
import Derived.WalkLawsBesides
import Derived.Lib.Hide
import Derived.Deep.QuietTactic
import Derived.Deep.Draws
import Derived.BigQuiet
import Derived.IntWalk
namespace Go.Proofs.Ytjondedkgkohfaa
open Go.RowKit

/-- Block g is a reader over n bytes f 0, f 1, .. at p. -/
structure Rd (w : World) (B g : Nat) (A : Option Addr) (n c : Nat) (f : Nat → Int) (p : Nat) : Prop where
  blk : w.heap[g]? = some (.cells #[.slice A n c, .int .i64 p] 98 (0, 0))
  ge : B ≤ g
  len : n ≤ 2000
  at_ : ∀ i, i < n → ∃ b o, A = some ⟨b, o, none⟩ ∧ b < B ∧ w.cell? ⟨b, o + i, none⟩ = some (.int .u8 (f i))
  byte : ∀ i, 0 ≤ f i ∧ f i < 256

/-- What pick leaves: a number below m (0 if m is less than 1), the reader one on. -/
def Picked (B g : Nat) (A : Option Addr) (n c : Nat) (f : Nat → Int) (p : Nat) (m : Int) (w : World) (e : Ending) (w' : World) : Prop :=
  ∃ v : Int, e = .returned (.int .i64 v) ∧ 0 ≤ v ∧ (1 ≤ m → v < m) ∧ (m < 1 → v = 0) ∧ Rd w' B g A n c f (p + 1) ∧ w.grownBy w' (some g)

theorem i64_xor_nat (a b : Nat) (ha : a < 9223372036854775808) (hb : b < 9223372036854775808) : bits .xor .i64 (a : Int) (b : Int) = ((a ^^^ b : Nat) : Int) := by
  have hx : a ^^^ b < 2 ^ 63 := Nat.xor_lt_two_pow (by omega) (by omega)
  have e (x : Nat) (h : x < 9223372036854775808) : (BitVec.ofInt 64 (x : Int)).toNat = x := by
    rw [BitVec.ofInt_natCast, BitVec.toNat_ofNat]; exact Nat.mod_eq_of_lt (by omega)
  show IntKind.i64.wrap ((BitVec.ofInt 64 (a : Int) ^^^ BitVec.ofInt 64 (b : Int)).toNat : Int) = _
  rw [BitVec.toNat_xor, e a ha, e b hb, IntKind.wrap_i64]
  omega

theorem xor_nonneg (x : Int) (h : 0 ≤ x) (h' : x < 9223372036854775808) : 0 ≤ bits .xor .i64 x (x / 64) := by
  obtain ⟨k, rfl⟩ := Int.eq_ofNat_of_zero_le h
  have e : ((k : Int) / 64) = ((k / 64 : Nat) : Int) := by omega
  rw [e, i64_xor_nat k (k / 64) (by omega) (by omega)]
  omega

theorem rd_moved {w : World} {B g : Nat} {A : Option Addr} {n c : Nat} {f : Nat → Int} {p : Nat} (h : Rd w B g A n c f p) (k : Nat) (q : Int) (hq : q = ((p + 1 : Nat) : Int)) :
    Rd ((w.setCell ⟨g, 1, none⟩ (.int .i64 q)).drewN k) B g A n c f (p + 1) ∧ w.grownBy ((w.setCell ⟨g, 1, none⟩ (.int .i64 q)).drewN k) (some g) := by
  subst hq
  refine ⟨⟨?_, h.ge, h.len, fun i hi => ?_, h.byte⟩, ⟨rfl, rfl, rfl, by simp [World.setCell], fun k hk hne => ?_⟩⟩
  · show ((w.setCell ⟨g, 1, none⟩ (.int .i64 ((p + 1 : Nat) : Int)))).heap[g]? = _
    simp [World.setCell, Array.getElem?_modify, h.blk]
  · obtain ⟨b, o, rfl, hb, hc⟩ := h.at_ i hi
    refine ⟨b, o, rfl, hb, ?_⟩
    show ((w.setCell ⟨g, 1, none⟩ (.int .i64 ((p + 1 : Nat) : Int)))).cell? ⟨b, o + i, none⟩ = _
    rw [World.cell?_setCell_other w _ _ _ (fun e => by injection e with e1; have := h.ge; omega)]
    exact hc
  · exact Below.heap_setCell _ _ _ _ (fun e => hne (by rw [e]))

set_option maxHeartbeats 1000000 in
theorem pick_any (w : World) (B g : Nat) (A : Option Addr) (n c : Nat) (f : Nat → Int) (p : Nat) (m : Int) (hr : Rd w B g A n c f p) (hp : p ≤ 1000000) (hm : m ≤ 1000000) :
    Calls Try.prog 64 #[.pointer (some ⟨g, 0, none⟩), .int .i64 m] w (Picked B g A n c f p m w) := by
  have hc0 : w.cell? ⟨g, 0, none⟩ = some (.slice A n c) := by rw [cell_of_row w g 0 _ _ _ hr.blk]; rfl
  have hc1 : w.cell? ⟨g, 1, none⟩ = some (.int .i64 p) := by rw [cell_of_row w g 1 _ _ _ hr.blk]; rfl
  have hf1 : w.frozen? ⟨g, 1, none⟩ = false := frozen_of_row w g 1 _ _ hr.blk
  have HR := Lib.hid hr
  clear hr
  by_cases h1 : m < 1
  · go_enter Try.func64, Try.ntmps64
    go_wp2
    go_ret
    have h := rd_moved HR.out 0 _ rfl
    exact ⟨0, rfl, by omega, fun h => by omega, fun _ => rfl, h.1, h.2⟩
  by_cases h0 : n = 0
  · subst h0
    go_enter Try.func64, Try.ntmps64
    go_wp2
    go_ret
    have h := rd_moved HR.out 0 _ rfl
    exact ⟨0, rfl, by omega, fun h => by omega, fun _ => rfl, h.1, h.2⟩
  have hn : n ≤ 2000 := HR.out.len
  have hn0 : ((n : Int) == 0) = false := by simp; omega
  have hn1 : 0 < n := by omega
  have hne : ¬ (n : Int) = 0 := by omega
  have hm1 : 1 ≤ m := by omega
  clear h0 h1
  by_cases h2 : p < n
  · obtain ⟨b, o, rfl, hb, hc⟩ := HR.out.at_ p h2
    have hge := HR.out.ge
    have hb1 := (HR.out.byte p).1
    have hb2 := (HR.out.byte p).2
    generalize hu : f p = u at hc hb1 hb2
    have HU := Lib.hid hu
    clear hu
    have hcs : ∀ q : Int, (w.setCell ⟨g, 1, none⟩ (.int .i64 q)).cell? ⟨b, o + p, none⟩ = some (.int .u8 u) := fun q => by
      rw [World.cell?_setCell_other w _ _ _ (fun e => by injection e with e1; omega)]; exact hc
    go_enter Try.func64, Try.ntmps64
    go_wp2
    go_ret
    have h := rd_moved HR.out 0 _ rfl
    exact ⟨_, rfl, Int.emod_nonneg _ (by omega), fun _ => Int.emod_lt_of_pos _ (by omega), fun h => by omega, h.1, h.2⟩
  · have i1 : p % n < n := Nat.mod_lt _ hn1
    have i2 : (p * 7 + 3) % n < n := Nat.mod_lt _ hn1
    obtain ⟨b, o, rfl, hb, hc⟩ := HR.out.at_ (p % n) i1
    obtain ⟨b', o', e', _, hc'⟩ := HR.out.at_ ((p * 7 + 3) % n) i2
    injection e' with e'
    injection e' with e1 e2
    subst e1 e2
    have hge := HR.out.ge
    have hb1 := (HR.out.byte (p % n)).1
    have hb2 := (HR.out.byte (p % n)).2
    have hb3 := (HR.out.byte ((p * 7 + 3) % n)).1
    have hb4 := (HR.out.byte ((p * 7 + 3) % n)).2
    generalize f (p % n) = u at hc hb1 hb2
    generalize f ((p * 7 + 3) % n) = u' at hc' hb3 hb4
    have hcs : ∀ q : Int, (w.setCell ⟨g, 1, none⟩ (.int .i64 q)).cell? ⟨b, o + p % n, none⟩ = some (.int .u8 u) := fun q => by
      rw [World.cell?_setCell_other w _ _ _ (fun e => by injection e with e1; omega)]; exact hc
    have hcs' : ∀ q : Int, (w.setCell ⟨g, 1, none⟩ (.int .i64 q)).cell? ⟨b, o + (p * 7 + 3) % n, none⟩ = some (.int .u8 u') := fun q => by
      rw [World.cell?_setCell_other w _ _ _ (fun e => by injection e with e1; omega)]; exact hc'
    have hnp : (0 : Int) < (n : Int) := by omega
    have j1 : (0 : Int) ≤ (p : Int) % (n : Int) := Int.emod_nonneg _ (by omega)
    have j2 : (p : Int) % (n : Int) < (n : Int) := Int.emod_lt_of_pos _ hnp
    have j3 : (0 : Int) ≤ ((p : Int) * 7 + 3) % (n : Int) := Int.emod_nonneg _ (by omega)
    have j4 : ((p : Int) * 7 + 3) % (n : Int) < (n : Int) := Int.emod_lt_of_pos _ hnp
    have j5 : (0 : Int) ≤ (p : Int) / (n : Int) := Int.ediv_nonneg (by omega) (by omega)
    have j6 : (p : Int) / (n : Int) ≤ (p : Int) := Int.ediv_le_self _ (by omega)
    clear hc hc'
    go_enter Try.func64, Try.ntmps64
    go_wp2
    go_quiet (fail)
    go_wp2
    go_ret
    have h := rd_moved HR.out nq _ rfl
    have hx := xor_nonneg (u * 131 + u' * 1117 + (p : Int) * 29 + (p : Int) / (n : Int) * 53) (by omega) (by omega)
    refine ⟨_, rfl, ?_, ?_, fun h => by omega, h.1, h.2⟩
    · rw [Int.tmod_eq_emod_of_nonneg hx]; exact Int.emod_nonneg _ (by omega)
    · intro _; rw [Int.tmod_eq_emod_of_nonneg hx]; exact Int.emod_lt_of_pos _ (by omega)

end Go.Proofs.Ytjondedkgkohfaa
