/- Facts of texts: texts tell shares apart. -/
import Derived.Test.YtbaecbibkmdbiacDoorLwFmtA
namespace Go.Proofs.YtbaecbibkmdbiacDoor
open Go.RowKit
set_option linter.unusedVariables false

def valD (l : List UInt8) : Nat := l.foldl (fun v b => v * 10 + (b.toNat - 48)) 0
theorem ofNat_dig {r : Nat} (h : r < 10) : (UInt8.ofNat (48 + r)).toNat = 48 + r := by
  rcases (by omega : r = 0 ∨ r = 1 ∨ r = 2 ∨ r = 3 ∨ r = 4 ∨ r = 5 ∨ r = 6 ∨ r = 7 ∨ r = 8 ∨ r = 9) with rfl | rfl | rfl | rfl | rfl | rfl | rfl | rfl | rfl | rfl <;> decide
theorem val_dec (m : Nat) : valD (Lib.decDigits m) = m := by
  induction m using Nat.strongRecOn with
  | ind m ih =>
    by_cases h : m < 10
    · rw [Lib.decDigits, dif_pos h]
      show 0 * 10 + ((UInt8.ofNat (48 + m)).toNat - 48) = m
      rw [ofNat_dig h]; omega
    · rw [dec_step h]
      have h10 : m % 10 < 10 := Nat.mod_lt _ (by omega)
      have e := ih (m / 10) (by omega)
      unfold valD at e ⊢
      rw [List.foldl_append, e]
      show m / 10 * 10 + ((UInt8.ofNat (48 + m % 10)).toNat - 48) = m
      rw [ofNat_dig h10]; omega
theorem dec_inj {a b : Nat} (h : Lib.decDigits a = Lib.decDigits b) : a = b := by rw [← val_dec a, ← val_dec b, h]
theorem split47 : ∀ (a c b d : List UInt8), (∀ x ∈ a, x ≠ 47) → (∀ x ∈ c, x ≠ 47) → a ++ 47 :: b = c ++ 47 :: d → a = c ∧ b = d
  | [], [], b, d, _, _, h => ⟨rfl, (List.cons.inj h).2⟩
  | [], x :: c, b, d, _, h2, h => absurd (List.cons.inj h).1.symm (h2 x (by simp))
  | x :: a, [], b, d, h1, _, h => absurd (List.cons.inj h).1 (h1 x (by simp))
  | x :: a, y :: c, b, d, h1, h2, h => by
    have hx := List.cons.inj h
    obtain ⟨e1, e2⟩ := split47 a c b d (fun z hz => h1 z (by simp [hz])) (fun z hz => h2 z (by simp [hz])) hx.2
    exact ⟨by rw [hx.1, e1], e2⟩
theorem txt_inj {p q m r : Nat} (hq : 1 ≤ q) (hr : 1 ≤ r) (h : txtS p q = txtS m r) : p = m ∧ q = r := by
  have hh := congrArg has47 h
  rw [txt_has p q hq, txt_has m r hr] at hh
  unfold txtS at h
  by_cases h1 : q = 1
  · have h2 : r = 1 := by
      by_cases h2 : r = 1
      · exact h2
      · rw [decide_eq_false (by omega), decide_eq_true (by omega)] at hh; cases hh
    rw [if_pos h1, if_pos h2] at h
    exact ⟨dec_inj h, by omega⟩
  · have h2 : r ≠ 1 := by
      intro h2
      rw [decide_eq_true (by omega), decide_eq_false (by omega)] at hh; cases hh
    rw [if_neg h1, if_neg h2] at h
    obtain ⟨e1, e2⟩ := split47 _ _ _ _ (dig_bytes p) (dig_bytes m) h
    exact ⟨dec_inj e1, dec_inj e2⟩
/-- A third more is another text. -/
theorem txt_more {p q m r : Nat} (hq : 1 ≤ q) (hr : 1 ≤ r) (h : addN (p, q) (1, 3) = (m, r)) : txtS m r ≠ txtS p q := by
  intro he
  obtain ⟨rfl, rfl⟩ := txt_inj hr hq he
  have hs := red_same (m * 3 + 1 * r) (r * 3)
  have e : redN (m * 3 + 1 * r) (r * 3) = (m, r) := h
  rw [e] at hs
  simp only at hs
  have h1 : m * (r * 3) = m * 3 * r := by ac_rfl
  rw [h1, Nat.add_mul] at hs
  have : 0 < 1 * r * r := Nat.mul_pos (by omega) (by omega)
  omega
theorem txt_first (p q : Nat) : ∃ h : 0 < (txtS p q).length, (txtS p q)[0] ≠ 47 := by
  have hl : 0 < (Lib.decDigits p).length := List.length_pos_iff.2 (dig_ne p)
  have hb := dig_bytes p (Lib.decDigits p)[0] (List.getElem_mem hl)
  unfold txtS
  split
  · exact ⟨hl, hb⟩
  · exact ⟨by simp; omega, by rw [List.getElem_append_left hl]; exact hb⟩
theorem txt_last (p q : Nat) : ∃ h : (txtS p q).length - 1 < (txtS p q).length, (txtS p q)[(txtS p q).length - 1] ≠ 47 := by
  have hl := List.length_pos_iff.2 (dig_ne p)
  have hm := List.length_pos_iff.2 (dig_ne q)
  have hb := dig_bytes p (Lib.decDigits p)[(Lib.decDigits p).length - 1] (List.getElem_mem (by omega))
  have hc := dig_bytes q (Lib.decDigits q)[(Lib.decDigits q).length - 1] (List.getElem_mem (by omega))
  unfold txtS
  split
  · exact ⟨by omega, hb⟩
  · refine ⟨by simp, ?_⟩
    have e : (Lib.decDigits p ++ 47 :: Lib.decDigits q)[(Lib.decDigits p ++ 47 :: Lib.decDigits q).length - 1]'(by simp) ∈ Lib.decDigits q := by
      rw [List.getElem_append_right (by simp)]
      simp only [List.length_append, List.length_cons]
      rw [List.getElem_cons]
      split
      · omega
      · exact List.getElem_mem _
    exact dig_bytes q _ e
theorem byte_ne {c : UInt8} (h : c ≠ 47) : ((c.toNat : Int) == 47) = false := by
  rw [beq_eq_false_iff_ne]
  intro e
  exact h (UInt8.toNat_inj.1 (by show c.toNat = 47; omega))

end Go.Proofs.YtbaecbibkmdbiacDoor
