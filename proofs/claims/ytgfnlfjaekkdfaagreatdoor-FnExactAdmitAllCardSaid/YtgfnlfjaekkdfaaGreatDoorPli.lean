/- Places at which something is so, as plain data. No program in this text. -/
import Derived.Test.YtgfnlfjaekkdfaaGreatDoorNB
namespace Go.Proofs.YtgfnlfjaekkdfaaGreatDoor
open Go.RowKit
set_option linter.unusedVariables false

/-- Places at which something is so. -/
def placesI (P : Nat → Bool) : Nat → List Int
  | 0 => []
  | n + 1 => if P n then placesI P n ++ [(n : Int)] else placesI P n
theorem places_mem {P : Nat → Bool} : ∀ {n : Nat} {z : Int}, z ∈ placesI P n ↔ ∃ k : Nat, z = (k : Int) ∧ k < n ∧ P k = true
  | 0, z => by simp [placesI]
  | n + 1, z => by
    unfold placesI
    by_cases h : P n = true
    · rw [if_pos h, List.mem_append, places_mem, List.mem_singleton]
      constructor
      · rintro (⟨k, h1, h2, h3⟩ | h1)
        · exact ⟨k, h1, by omega, h3⟩
        · exact ⟨n, h1, Nat.lt_succ_self _, h⟩
      · rintro ⟨k, h1, h2, h3⟩
        by_cases e : k = n
        · right; rw [h1, e]
        · exact .inl ⟨k, h1, by omega, h3⟩
    · rw [if_neg h, places_mem]
      constructor
      · rintro ⟨k, h1, h2, h3⟩; exact ⟨k, h1, by omega, h3⟩
      · rintro ⟨k, h1, h2, h3⟩
        exact ⟨k, h1, by
          rcases Nat.lt_or_ge k n with hh | hh
          · exact hh
          · exfalso; rw [show k = n by omega] at h3; exact h h3, h3⟩
theorem places_len (P : Nat → Bool) : ∀ n : Nat, (placesI P n).length ≤ n
  | 0 => Nat.le_refl _
  | n + 1 => by
    have := places_len P n
    unfold placesI
    split
    · simp; omega
    · omega
theorem places_asc (P : Nat → Bool) : ∀ n : Nat, (placesI P n).Pairwise (· < ·)
  | 0 => List.Pairwise.nil
  | n + 1 => by
    unfold placesI
    split
    · rw [List.pairwise_append]
      refine ⟨places_asc P n, by simp, fun a ha b hb => ?_⟩
      obtain ⟨k, rfl, h2, _⟩ := places_mem.1 ha
      rw [List.mem_singleton.1 hb]
      omega
    · exact places_asc P n
theorem places_no {P : Nat → Bool} {n : Nat} (h : P n = false) : placesI P (n + 1) = placesI P n := by
  show (if P n then _ else _) = _
  rw [h]; rfl
theorem places_yes {P : Nat → Bool} {n : Nat} (h : P n = true) : placesI P (n + 1) = placesI P n ++ [(n : Int)] := by
  show (if P n then _ else _) = _
  rw [h]; rfl

theorem cell_new1_at (w : World) (z : Int) (ty : TypeId) (g : Nat) (hg : g = w.heap.size) : ∀ j u, ([Value.int .i64 z])[j]? = some u → (w.alloc (.cells #[.int .i64 z] ty)).cell? ((⟨g, 0, none⟩ : Addr).add j) = some u := by
  subst hg
  intro j u hj
  have ea : (⟨w.heap.size, 0, none⟩ : Addr).add j = ⟨w.heap.size, j, none⟩ := by unfold Addr.add; split <;> simp_all
  rw [ea, (Blk.new w ty _).cell j, ← hj]
  simp

end Go.Proofs.YtgfnlfjaekkdfaaGreatDoor
