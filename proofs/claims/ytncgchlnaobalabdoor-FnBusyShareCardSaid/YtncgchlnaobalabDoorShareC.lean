/- What MakeShare, ShareValid, AddShares and CompareShares answer, as plain functions. No program in this text. -/
import Derived.Test.YtncgchlnaobalabDoorShareB
namespace Go.Proofs.YtncgchlnaobalabDoor

/-- A share: in lowest terms, with numbers that are not too great. -/
structure Sh (n d : Nat) : Prop where
  pos : 1 ≤ d
  num : n ≤ 1000000000
  den : d ≤ 1000000000
  cop : Nat.gcd n d = 1

def mkB (n d : Int) : Bool := decide (0 ≤ n) && (decide (n ≤ 1000000000) && (decide (1 ≤ d) && decide (d ≤ 1000000000)))
def mkS (n d : Int) : Nat × Nat := if mkB n d then redN n.toNat d.toNat else (0, 0)
def shB (n d : Int) : Bool := mkB n d && (Nat.gcd n.toNat d.toNat == 1)
def addB (a b : Nat × Nat) : Bool := decide ((addN a b).1 ≤ 1000000000) && decide ((addN a b).2 ≤ 1000000000)
def plusB (n d m e : Int) : Bool := shB n d && (shB m e && addB (n.toNat, d.toNat) (m.toNat, e.toNat))
def plusS (n d m e : Int) : Nat × Nat := if plusB n d m e then addN (n.toNat, d.toNat) (m.toNat, e.toNat) else (0, 0)
def cmpS (n d m e : Int) : Int := if shB n d && shB m e then cmpN (n.toNat, d.toNat) (m.toNat, e.toNat) else 0

theorem mk_nat {n d : Int} (h : mkB n d = true) : ∃ a b : Nat, n = a ∧ d = b ∧ a ≤ 1000000000 ∧ 1 ≤ b ∧ b ≤ 1000000000 := by
  unfold mkB at h
  simp at h
  exact ⟨n.toNat, d.toNat, by omega, by omega, by omega, by omega, by omega⟩
theorem nat_mk {a b : Nat} (h1 : a ≤ 1000000000) (h2 : 1 ≤ b) (h3 : b ≤ 1000000000) : mkB a b = true := by
  unfold mkB
  simp
  omega
theorem mk_no {n d : Int} (h : mkB n d = false) : n < 0 ∨ 1000000000 < n ∨ d < 1 ∨ 1000000000 < d := by
  unfold mkB at h
  simp at h
  omega
theorem mkS_nat {a b : Nat} (h1 : a ≤ 1000000000) (h2 : 1 ≤ b) (h3 : b ≤ 1000000000) : mkS a b = redN a b := by
  unfold mkS
  rw [nat_mk h1 h2 h3]
  rfl
theorem mkS_no {n d : Int} (h : mkB n d = false) : mkS n d = (0, 0) := by unfold mkS; rw [h]; rfl
theorem sh_red {a b : Nat} (h1 : a ≤ 1000000000) (h2 : 1 ≤ b) (h3 : b ≤ 1000000000) : Sh (redN a b).1 (redN a b).2 :=
  ⟨red_pos h2, Nat.le_trans (red_le_num _ _) h1, Nat.le_trans (red_le_den _ _) h3, red_cop h2⟩
theorem sh_of {n d : Int} (h : shB n d = true) : ∃ a b : Nat, n = a ∧ d = b ∧ Sh a b := by
  unfold shB at h
  rw [Bool.and_eq_true] at h
  obtain ⟨a, b, rfl, rfl, h1, h2, h3⟩ := mk_nat h.1
  exact ⟨a, b, rfl, rfl, h2, h1, h3, by simpa using h.2⟩
theorem of_sh {a b : Nat} (h : Sh a b) : shB a b = true := by
  unfold shB
  rw [nat_mk h.num h.pos h.den]
  simp [h.cop]
theorem sh_redN {a b : Nat} (h : Sh a b) : redN a b = (a, b) := red_of_cop h.cop
theorem gcd_one {a b : Nat} (hb : 0 < b) (h : b / Nat.gcd a b = b) : Nat.gcd a b = 1 := by
  have hg : 0 < Nat.gcd a b := Nat.gcd_pos_of_pos_right a hb
  have h1 := Nat.div_mul_cancel (Nat.gcd_dvd_right a b)
  rw [h] at h1
  have : b * Nat.gcd a b = b * 1 := by omega
  exact Nat.eq_of_mul_eq_mul_left hb this
theorem plus_sh {a b c d : Nat} (h : Sh a b) (k : Sh c d) : plusB a b c d = addB (a, b) (c, d) ∧ plusS a b c d = if addB (a, b) (c, d) then addN (a, b) (c, d) else (0, 0) := by
  have e : plusB a b c d = addB (a, b) (c, d) := by unfold plusB; rw [of_sh h, of_sh k]; simp
  refine ⟨e, ?_⟩
  unfold plusS
  rw [e]
  simp
theorem plus_out {n d m e : Int} (h : plusB n d m e = true) : ∃ a b x y : Nat, n = a ∧ d = b ∧ m = x ∧ e = y ∧ Sh a b ∧ Sh x y ∧ plusS n d m e = addN (a, b) (x, y) ∧ Sh (addN (a, b) (x, y)).1 (addN (a, b) (x, y)).2 := by
  have h0 := h
  unfold plusB at h
  rw [Bool.and_eq_true, Bool.and_eq_true] at h
  obtain ⟨a, b, rfl, rfl, ha⟩ := sh_of h.1
  obtain ⟨x, y, rfl, rfl, hx⟩ := sh_of h.2.1
  have h3 := h.2.2
  unfold addB at h3
  simp at h3
  refine ⟨a, b, x, y, rfl, rfl, rfl, rfl, ha, hx, ?_, ?_⟩
  · unfold plusS; rw [h0]; rfl
  · exact ⟨add_pos ha.pos hx.pos, h3.1, h3.2, add_cop ha.pos hx.pos⟩
theorem plus_no {n d m e : Int} (h : plusB n d m e = false) : plusS n d m e = (0, 0) := by unfold plusS; rw [h]; rfl
theorem plus_comm (n d m e : Int) : plusB n d m e = plusB m e n d ∧ plusS n d m e = plusS m e n d := by
  have e1 : addB (n.toNat, d.toNat) (m.toNat, e.toNat) = addB (m.toNat, e.toNat) (n.toNat, d.toNat) := by unfold addB; rw [add_comm]
  have e2 : plusB n d m e = plusB m e n d := by
    unfold plusB
    rw [e1, ← Bool.and_assoc, ← Bool.and_assoc, Bool.and_comm (shB n d)]
  refine ⟨e2, ?_⟩
  unfold plusS
  rw [e2, add_comm]
theorem cmp_sh {a b c d : Nat} (h : Sh a b) (k : Sh c d) : cmpS a b c d = cmpN (a, b) (c, d) := by
  unfold cmpS; rw [of_sh h, of_sh k]; rfl
theorem cmp_left {n d : Int} (m e : Int) (h : shB n d = false) : cmpS n d m e = 0 := by unfold cmpS; rw [h]; rfl
theorem cmp_right {m e : Int} (n d : Int) (h : shB m e = false) : cmpS n d m e = 0 := by unfold cmpS; rw [h]; simp
theorem cmpS_flip (n d m e : Int) : cmpS n d m e = - cmpS m e n d := by
  unfold cmpS
  rw [Bool.and_comm, cmp_flip]
  split <;> omega
theorem cmpS_range (n d m e : Int) : -1 ≤ cmpS n d m e ∧ cmpS n d m e ≤ 1 := by
  unfold cmpS
  split
  · exact cmp_range _ _
  · omega
theorem cmpS_self (n d : Int) : cmpS n d n d = 0 := by
  unfold cmpS
  split
  · exact cmp_self _
  · rfl
theorem cmpS_zero {a b c d : Nat} (h : Sh a b) (k : Sh c d) : cmpS a b c d = 0 ↔ a = c ∧ b = d := by
  rw [cmp_sh h k, cmp_zero (a := (a, b)) (b := (c, d)) h.pos k.pos h.cop k.cop, Prod.mk.injEq]
/-- A sum is no less than its parts. -/
theorem cmp_plus {a b x y : Nat} (h : Sh a b) (k : Sh x y) (hs : Sh (addN (a, b) (x, y)).1 (addN (a, b) (x, y)).2) : cmpS a b (addN (a, b) (x, y)).1 (addN (a, b) (x, y)).2 ≤ 0 ∧ cmpS x y (addN (a, b) (x, y)).1 (addN (a, b) (x, y)).2 ≤ 0 := by
  rw [cmp_sh h hs, cmp_sh k hs]
  refine ⟨(cmp_le _ _).2 (le_add h.pos k.pos), (cmp_le _ _).2 ?_⟩
  rw [add_comm]
  exact le_add k.pos h.pos
theorem plus_zero {a b : Nat} (h : Sh a b) : plusB a b 0 1 = true ∧ plusS a b 0 1 = (a, b) := by
  have h01 : Sh 0 1 := ⟨by omega, by omega, by omega, by decide⟩
  obtain ⟨e1, e2⟩ := plus_sh h h01
  have e : addN (a, b) (0, 1) = (a, b) := add_zero h.cop
  have hb : addB (a, b) (0, 1) = true := by unfold addB; rw [e]; simp; exact ⟨h.num, h.den⟩
  have e1' : plusB a b 0 1 = true := by have := e1; rw [hb] at this; exact_mod_cast this
  refine ⟨e1', ?_⟩
  have := e2
  rw [hb, e] at this
  exact_mod_cast this
theorem cmp_more {n d m e p q : Int} (h1 : plusB n d p q = true) (h2 : plusB m e p q = true) : cmpS (plusS n d p q).1 (plusS n d p q).2 (plusS m e p q).1 (plusS m e p q).2 = cmpS n d m e := by
  obtain ⟨a, b, x, y, rfl, rfl, rfl, rfl, ha, hx, e1, s1⟩ := plus_out h1
  obtain ⟨a', b', x', y', rfl, rfl, hx1, hx2, ha', hx', e2, s2⟩ := plus_out h2
  have i1 : x' = x := by omega
  have i2 : y' = y := by omega
  subst i1 i2
  rw [e1, e2, cmp_sh s1 s2, cmp_sh ha ha']
  exact cmp_add ha.pos ha'.pos hx.pos

end Go.Proofs.YtncgchlnaobalabDoor
