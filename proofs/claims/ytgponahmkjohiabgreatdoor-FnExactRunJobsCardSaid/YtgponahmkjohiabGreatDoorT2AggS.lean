import Derived.WalkKit
import Derived.ProofKit
import Derived.OpenShut
import Derived.Deep.Slices
import Derived.Deep.Fields
import Derived.ChangeSame
import Derived.Test.YtgponahmkjohiabGreatDoorRows
import Derived.Test.YtgponahmkjohiabGreatDoorT2NA
namespace Go.Proofs.YtgponahmkjohiabGreatDoor
open Go.ChangeShapes Go.WideShapes Go.RowKit Go.Deep
section
variable {H : Type} {enc : TypeId × Value → H} {P : Program} {w : World} {base : Nat} {spare : Nat → Bool} {held : Bool}
theorem open_slice_fields {t e : TypeId} {fs : Array Field} {fuel : Nat} {cs : List Value} {x : DataW H × List MemPlace} (ht : P.underlying t = some (.slice e)) (he : P.underlying e = some (.struct fs))
    (hone : oneCellFields P fs = true) (hC : P.cellsOf e = fs.size) (h : DataW.trod enc P w base spare held fuel t cs = some x) :
    (cs = [.slice none 0 0] ∧ x = (.nil, [])) ∨
    ∃ (a : Addr) (len cap m : Nat) (D : Nat → DataW H) (Pl : Nat → List MemPlace), cs = [.slice (some a) len cap] ∧ base ≤ a.block ∧ len ≤ cap ∧ cap ≤ maxLen ∧ m = (if spare a.block then cap else len) ∧
      x = (.slice ((List.range len).map D) ((List.range (m - len)).map fun j => D (len + j)), MemPlace.row a (m * fs.size) ++ (List.range m).flatMap Pl) ∧
      ∀ i, i < m → ∃ (ys : List (DataW H × List MemPlace)) (n : Nat), D i = .agg (ys.map (·.1)) ∧ Pl i = ys.flatMap (·.2) ∧ ys.length = fs.size ∧
        ∀ (j : Nat) (f : Field), fs[j]? = some f → ∃ (v : Value) (y : DataW H × List MemPlace), w.cell? (a.add (i * fs.size + j)) = some v ∧ ys[j]? = some y ∧ DataW.trod enc P w base spare held n f.type [v] = some y := by
  rcases open_slice ht h with h0 | ⟨a, len, cap, m, n, D, Pl, hcs, hb, hl, hm, hmm, hx, hi⟩
  · exact .inl h0
  · refine .inr ⟨a, len, cap, m, D, Pl, hcs, hb, hl, hm, hmm, by rw [hC] at hx; exact hx, fun i him => ?_⟩
    obtain ⟨cs', hc, ht'⟩ := hi i him
    rw [hC] at hc
    obtain ⟨ys, n', hn', hy, hlen, hyl, hf⟩ := DataW.trod_struct he ht'
    obtain ⟨_, hcl, hat⟩ := World.cells?_some hc
    simp only [Prod.mk.injEq] at hy
    refine ⟨ys, n', hy.1, hy.2, hyl, fun j f hj => ?_⟩
    obtain ⟨ho, hk⟩ := hone_of hone j f hj
    have hjl : j < fs.size := (Array.getElem?_eq_some_iff.1 hj).1
    have hcell := hat j hjl
    have hv : cs'[j]? = some (cs'[j]'(by omega)) := List.getElem?_eq_getElem (by omega)
    have h1 := hf j f hj
    rw [ho, hk] at h1
    have hone' : (cs'.drop j).take 1 = [cs'[j]'(by omega)] := by
      rw [List.drop_eq_getElem_cons (by omega)]
      rfl
    rw [hone'] at h1
    have hys : ys[j]? = some (ys[j]'(by omega)) := List.getElem?_eq_getElem (by omega)
    refine ⟨_, _, ?_, hys, h1.trans hys⟩
    rw [← Go.Deep.add_add, hcell, hv]
end
theorem cellsTaskL : Tryz.prog.cellsOf 112 = 5 := by kernel_rfl
theorem tasks_of {H : Type} {enc : TypeId × Value → H} {w : World} {sp : Nat → Bool} {hd : Bool} {base : Nat} {a : Option Addr} {len cap fuel : Nat} {x : DataW H × List MemPlace}
    (hf : DataW.trod enc Tryz.prog w base sp hd fuel 52 (Value.slice a len cap).cells.toList = some x) (hs : ∀ b, sp b = true) :
    len ≤ 9223372036854775807 ∧ ∃ ts, Tks w w.heap.size a len ts := by
  have hf' : DataW.trod enc Tryz.prog w base sp hd fuel 52 [.slice a len cap] = some x := by simpa [Value.cells] using hf
  rcases open_slice_fields Tryz.underlying52 Tryz.underlying112 (by kernel_rfl) cellsTaskL hf' with ⟨hcs, _⟩ | ⟨ad, l, c, m, D, Pl, hcs, _, hl, hm, hmm, _, hi⟩
  · simp at hcs
    obtain ⟨rfl, rfl, rfl⟩ := hcs
    exact ⟨by omega, [], rfl, fun i t ht => by simp at ht⟩
  · simp at hcs
    obtain ⟨rfl, rfl, rfl⟩ := hcs
    rw [hs, if_pos rfl] at hmm
    subst hmm
    refine ⟨by unfold maxLen at hm; omega, ?_⟩
    have at_ : ∀ i, i < len → ∃ t, ∃ b o, (some ad : Option Addr) = some ⟨b, o, none⟩ ∧ b < w.heap.size ∧ TkAt w b (o + i * 5) t := by
      intro i hlt
      obtain ⟨ys, n, _, _, _, hj⟩ := hi i (by omega)
      obtain ⟨v0, y0, g0, _, r0⟩ := hj 0 _ rfl
      obtain ⟨v1, y1, g1, _, r1⟩ := hj 1 _ rfl
      obtain ⟨v2, y2, g2, _, r2⟩ := hj 2 _ rfl
      obtain ⟨v3, y3, g3, _, r3⟩ := hj 3 _ rfl
      obtain ⟨v4, y4, g4, _, r4⟩ := hj 4 _ rfl
      obtain ⟨lo, e0, _, _⟩ := DataW.trod_int Tryz.underlying3 r0
      obtain ⟨hi', e1, _, _⟩ := DataW.trod_int Tryz.underlying3 r1
      obtain ⟨du, e2, _, _⟩ := DataW.trod_int Tryz.underlying3 r2
      obtain ⟨ev, e3, _, _⟩ := DataW.trod_int Tryz.underlying3 r3
      obtain ⟨cr, e4, _⟩ := DataW.trod_bool Tryz.underlying4 r4
      simp at e0 e1 e2 e3 e4
      subst e0 e1 e2 e3 e4
      obtain ⟨b, o, s⟩ := ad
      have hspot : s = none := by
        obtain ⟨_, _, _, _, _, hj0⟩ := hi 0 (by omega)
        obtain ⟨_, _, z0, _, _⟩ := hj0 0 _ rfl
        simpa [Addr.add] using World.cell?_spot z0
      subst hspot
      have hb := block_lt_of_cell g1
      have ea : ∀ q, (⟨b, o, none⟩ : Addr).add q = ⟨b, o + q, none⟩ := fun q => by unfold Addr.add; split <;> simp_all
      rw [ea] at g0 g1 g2 g3 g4 hb
      refine ⟨⟨lo, hi', du, ev, cr⟩, b, o, rfl, hb, ?_⟩
      refine ⟨?_, ?_, ?_, ?_, ?_⟩
      · simpa using g0
      · exact g1
      · exact g2
      · exact g3
      · exact g4
    obtain ⟨F, hF⟩ : ∃ F : Nat → Tk, ∀ i, i < len → ∃ b o, (some ad : Option Addr) = some ⟨b, o, none⟩ ∧ b < w.heap.size ∧ TkAt w b (o + i * 5) (F i) :=
      ⟨fun i => if h : i < len then Classical.choose (at_ i h) else ⟨0, 0, 0, 0, false⟩, fun i h => by simp only [dif_pos h]; exact Classical.choose_spec (at_ i h)⟩
    refine ⟨(List.range len).map F, by simp, fun i t ht => ?_⟩
    have hlt : i < len := by have := (List.getElem?_eq_some_iff.1 ht).1; simpa using this
    rw [List.getElem?_map, List.getElem?_range hlt] at ht
    injection ht with ht
    subst ht
    exact hF i hlt
end Go.Proofs.YtgponahmkjohiabGreatDoor
