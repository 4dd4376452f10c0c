import Derived.WalkKit
import Derived.ProofKit
import Derived.OpenShut
import Derived.Deep.Slices
import Derived.Deep.Fields
import Derived.ChangeSame
import Derived.Lib.SmallJoins
import Derived.Test.YtgponahmkjohiabGreatDoorT2AggS
import Derived.Test.YtgponahmkjohiabGreatDoorT2ND
namespace Go.Proofs.YtgponahmkjohiabGreatDoor
open Go.ChangeShapes Go.WideShapes Go.RowKit Go.Deep
theorem cellsJobL : Tryz.prog.cellsOf 114 = 3 := by kernel_rfl
theorem jobs_of {H : Type} {enc : TypeId × Value → H} {w : World} {sp : Nat → Bool} {hd : Bool} {base : Nat} {a : Option Addr} {len cap fuel : Nat} {x : DataW H × List MemPlace}
    (hf : DataW.trod enc Tryz.prog w base sp hd fuel 53 (Value.slice a len cap).cells.toList = some x) (hs : ∀ b, sp b = true) :
    len ≤ 9223372036854775807 ∧ ∃ ts, Jbs w w.heap.size a len ts := by
  have hf' : DataW.trod enc Tryz.prog w base sp hd fuel 53 [.slice a len cap] = some x := by simpa [Value.cells] using hf
  rcases open_slice_fields Tryz.underlying53 Tryz.underlying114 (by kernel_rfl) cellsJobL hf' with ⟨hcs, _⟩ | ⟨ad, l, c, m, D, Pl, hcs, _, hl, hm, hmm, _, hi⟩
  · simp at hcs
    obtain ⟨rfl, rfl, rfl⟩ := hcs
    exact ⟨by omega, [], rfl, fun i t ht => by simp at ht⟩
  · simp at hcs
    obtain ⟨rfl, rfl, rfl⟩ := hcs
    rw [hs, if_pos rfl] at hmm
    subst hmm
    refine ⟨by unfold maxLen at hm; omega, ?_⟩
    have at_ : ∀ i, i < len → ∃ t, ∃ b o, (some ad : Option Addr) = some ⟨b, o, none⟩ ∧ b < w.heap.size ∧ JbAt w b (o + i * 3) t := by
      intro i hlt
      obtain ⟨ys, n, _, _, _, hj⟩ := hi i (by omega)
      obtain ⟨v0, y0, g0, _, r0⟩ := hj 0 _ rfl
      obtain ⟨v1, y1, g1, _, r1⟩ := hj 1 _ rfl
      obtain ⟨v2, y2, g2, _, r2⟩ := hj 2 _ rfl
      obtain ⟨ta, e0, _, _⟩ := DataW.trod_int Tryz.underlying3 r0
      obtain ⟨tm, e1, _, _⟩ := DataW.trod_int Tryz.underlying3 r1
      obtain ⟨ne, e2, _, _⟩ := DataW.trod_int Tryz.underlying3 r2
      simp at e0 e1 e2
      subst e0 e1 e2
      obtain ⟨b, o, s⟩ := ad
      have hspot : s = none := by
        obtain ⟨_, _, _, _, _, hj0⟩ := hi 0 (by omega)
        obtain ⟨_, _, z0, _, _⟩ := hj0 0 _ rfl
        simpa [Addr.add] using World.cell?_spot z0
      subst hspot
      have hb := block_lt_of_cell g1
      have ea : ∀ q, (⟨b, o, none⟩ : Addr).add q = ⟨b, o + q, none⟩ := fun q => by unfold Addr.add; split <;> simp_all
      rw [ea] at g0 g1 g2 hb
      refine ⟨⟨ta, tm, ne⟩, b, o, rfl, hb, ?_⟩
      refine ⟨?_, ?_, ?_⟩
      · simpa using g0
      · exact g1
      · exact g2
    obtain ⟨F, hF⟩ : ∃ F : Nat → Jb, ∀ i, i < len → ∃ b o, (some ad : Option Addr) = some ⟨b, o, none⟩ ∧ b < w.heap.size ∧ JbAt w b (o + i * 3) (F i) :=
      ⟨fun i => if h : i < len then Classical.choose (at_ i h) else ⟨0, 0, 0⟩, fun i h => by simp only [dif_pos h]; exact Classical.choose_spec (at_ i h)⟩
    refine ⟨(List.range len).map F, by simp, fun i t ht => ?_⟩
    have hlt : i < len := by have := (List.getElem?_eq_some_iff.1 ht).1; simpa using this
    rw [List.getElem?_map, List.getElem?_range hlt] at ht
    injection ht with ht
    subst ht
    exact hF i hlt
end Go.Proofs.YtgponahmkjohiabGreatDoor
