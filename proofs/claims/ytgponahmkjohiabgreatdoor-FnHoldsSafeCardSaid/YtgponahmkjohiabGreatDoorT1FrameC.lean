import Derived.ProofKit
import Derived.OpenShut
import Derived.Test.YtgponahmkjohiabGreatDoorT1NA
namespace Go.Proofs.YtgponahmkjohiabGreatDoor
open Go.ChangeShapes Go.WideShapes Go.ChangeAt Go.RowKit
theorem code_of {H : Type} {enc : TypeId × Value → H} {w : World} {sp : Nat → Bool} {hd : Bool} {base : Nat} {a : Option Addr} {len cap fuel : Nat} {x : DataW H × List MemPlace}
    (hf : DataW.trod enc Tryz.prog w base sp hd fuel 22 (Value.slice a len cap).cells.toList = some x) (hs : ∀ b, sp b = true) : ∃ f, Code w w.heap.size a len cap f := by
  rcases open_ints Tryz.underlying22 Tryz.underlying5 (by kernel_rfl) hf with ⟨hcs, _⟩ | ⟨x, l, c, zs, hcs, _, hl, hm, hz, _, hcell, hwz⟩
  · simp [Value.cells] at hcs
    obtain ⟨rfl, rfl, rfl⟩ := hcs
    exact ⟨fun _ => 0, Nat.le_refl _, by unfold maxLen; omega, fun i hi => by omega, fun _ => by omega⟩
  · simp [Value.cells] at hcs
    obtain ⟨rfl, rfl, rfl⟩ := hcs
    have hz' : zs.length = cap := by simpa [hs] using hz
    refine ⟨fun i => zs.getD i 0, hl, hm, fun i hi => ?_, fun i => ?_⟩
    · have h := hcell i (by omega)
      obtain ⟨b, o, s⟩ := x
      have hspot : s = none := by simpa [Addr.add] using World.cell?_spot (hcell 0 (by omega))
      subst hspot
      have hb := block_lt_of_cell h
      have e : (⟨b, o, none⟩ : Addr).add i = ⟨b, o + i, none⟩ := by unfold Addr.add; split <;> simp_all
      rw [e] at h hb
      exact ⟨b, o, rfl, hb, h⟩
    · by_cases hi : i < zs.length
      · have h := hwz (zs.getD i 0) (by simp [List.getD, List.getElem?_eq_getElem hi])
        have := bounds_u8 h
        omega
      · simp [List.getD, List.getElem?_eq_none (Nat.le_of_not_lt hi)]
end Go.Proofs.YtgponahmkjohiabGreatDoor
