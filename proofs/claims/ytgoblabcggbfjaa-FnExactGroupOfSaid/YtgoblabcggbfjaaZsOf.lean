/- A slice of numbers that came in reads as a list of numbers. -/
import Derived.Test.YtgoblabcggbfjaaRows
import Derived.Test.YtgoblabcggbfjaaMB
import Derived.ProofKit
import Derived.OpenShut
namespace Go.Proofs.Ytgoblabcggbfjaa
open Go.ChangeShapes Go.WideShapes Go.ChangeAt Go.RowKit

theorem zs_of {H : Type} {enc : TypeId × Value → H} {w : World} {sp : Nat → Bool} {hd : Bool} {base : Nat} {a : Option Addr} {len cap fuel : Nat} {x : DataW H × List MemPlace}
    (hf : DataW.trod enc Try.prog w base sp hd fuel 25 (Value.slice a len cap).cells.toList = some x) (hs : ∀ b, sp b = true) : ∃ zs, Zs w w.heap.size a len zs := by
  rcases open_ints Try.underlying25 Try.underlying3 (by kernel_rfl) hf with ⟨hcs, _⟩ | ⟨x, l, c, zs, hcs, _, hl, hm, hz, _, hcell, _⟩
  · simp [Value.cells] at hcs
    obtain ⟨rfl, rfl, rfl⟩ := hcs
    exact ⟨[], rfl, fun i z hi => by simp at hi⟩
  · simp [Value.cells] at hcs
    obtain ⟨rfl, rfl, rfl⟩ := hcs
    have hz' : zs.length = cap := by simpa [hs] using hz
    refine ⟨zs.take len, by rw [List.length_take]; omega, fun i z hi => ?_⟩
    have hil : i < len := by have := (List.getElem?_eq_some_iff.1 hi).1; rw [List.length_take] at this; omega
    rw [List.getElem?_take, if_pos hil] at hi
    have h := hcell i (by omega)
    rw [List.getD, hi] at h
    obtain ⟨b, o, s⟩ := x
    have hspot : s = none := by simpa [Addr.add] using World.cell?_spot (hcell 0 (by omega))
    subst hspot
    have hb := block_lt_of_cell h
    have e : (⟨b, o, none⟩ : Addr).add i = ⟨b, o + i, none⟩ := by unfold Addr.add; split <;> simp_all
    rw [e] at h hb
    exact ⟨b, o, rfl, hb, h⟩

end Go.Proofs.Ytgoblabcggbfjaa
