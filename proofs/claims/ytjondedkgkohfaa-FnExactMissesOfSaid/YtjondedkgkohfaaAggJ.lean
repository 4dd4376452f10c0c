/- A job, or a slice of jobs, that came in: what is written out. -/
import Derived.Test.YtjondedkgkohfaaRows
import Derived.Test.YtjondedkgkohfaaAggS
import Derived.Test.YtjondedkgkohfaaJb
import Derived.WalkKit
import Derived.ProofKit
import Derived.OpenShut
import Derived.Deep.Slices
import Derived.Deep.Fields
import Derived.ChangeSame
import Derived.Lib.SmallJoins
namespace Go.Proofs.Ytjondedkgkohfaa
open Go.ChangeShapes Go.WideShapes Go.RowKit Go.Deep

theorem cellsJobL : Try.prog.cellsOf 85 = 3 := by kernel_rfl

theorem jobs_of {H : Type} {enc : TypeId × Value → H} {w : World} {sp : Nat → Bool} {hd : Bool} {base : Nat} {a : Option Addr} {len cap fuel : Nat} {x : DataW H × List MemPlace}
    (hf : DataW.trod enc Try.prog w base sp hd fuel 56 (Value.slice a len cap).cells.toList = some x) (hs : ∀ b, sp b = true) :
    len ≤ 9223372036854775807 ∧ ∃ ts, Jbs w w.heap.size a len ts := by
  have hf' : DataW.trod enc Try.prog w base sp hd fuel 56 [.slice a len cap] = some x := by simpa [Value.cells] using hf
  rcases open_slice_fields Try.underlying56 Try.underlying85 (by kernel_rfl) cellsJobL hf' with ⟨hcs, _⟩ | ⟨ad, l, c, m, D, Pl, hcs, _, hl, hm, hmm, _, hi⟩
  · simp at hcs
    obtain ⟨rfl, rfl, rfl⟩ := hcs
    exact ⟨by omega, [], rfl, fun i t ht => by simp at ht⟩
  · simp at hcs
    obtain ⟨rfl, rfl, rfl⟩ := hcs
    rw [hs, if_pos rfl] at hmm
    subst hmm
    refine ⟨by unfold maxLen at hm; omega, ?_⟩
    have at_ : ∀ i, i < len → ∃ t, ∃ b o, (some ad : Option Addr) = some ⟨b, o, none⟩ ∧ b < w.heap.size ∧ JbAt w b (o + i * 3) t := by
      intro i hlt
      obtain ⟨ys, n, _, _, _, hj⟩ := hi i (by omega)
      obtain ⟨v0, y0, g0, _, r0⟩ := hj 0 _ rfl
      obtain ⟨v1, y1, g1, _, r1⟩ := hj 1 _ rfl
      obtain ⟨v2, y2, g2, _, r2⟩ := hj 2 _ rfl
      obtain ⟨ta, e0, _, _⟩ := DataW.trod_int Try.underlying3 r0
      obtain ⟨tm, e1, _, _⟩ := DataW.trod_int Try.underlying3 r1
      obtain ⟨ne, e2, _, _⟩ := DataW.trod_int Try.underlying3 r2
      simp at e0 e1 e2
      subst e0 e1 e2
      obtain ⟨b, o, s⟩ := ad
      have hspot : s = none := by
        obtain ⟨_, _, _, _, _, hj0⟩ := hi 0 (by omega)
        obtain ⟨_, _, z0, _, _⟩ := hj0 0 _ rfl
        simpa [Addr.add] using World.cell?_spot z0
      subst hspot
      have hb := block_lt_of_cell g1
      have ea : ∀ q, (⟨b, o, none⟩ : Addr).add q = ⟨b, o + q, none⟩ := fun q => by unfold Addr.add; split <;> simp_all
      rw [ea] at g0 g1 g2 hb
      refine ⟨⟨ta, tm, ne⟩, b, o, rfl, hb, ?_⟩
      refine ⟨?_, ?_, ?_⟩
      · simpa using g0
      · exact g1
      · exact g2
    obtain ⟨F, hF⟩ : ∃ F : Nat → Jb, ∀ i, i < len → ∃ b o, (some ad : Option Addr) = some ⟨b, o, none⟩ ∧ b < w.heap.size ∧ JbAt w b (o + i * 3) (F i) :=
      ⟨fun i => if h : i < len then Classical.choose (at_ i h) else ⟨0, 0, 0⟩, fun i h => by simp only [dif_pos h]; exact Classical.choose_spec (at_ i h)⟩
    refine ⟨(List.range len).map F, by simp, fun i t ht => ?_⟩
    have hlt : i < len := by have := (List.getElem?_eq_some_iff.1 ht).1; simpa using this
    rw [List.getElem?_map, List.getElem?_range hlt] at ht
    injection ht with ht
    subst ht
    exact hF i hlt

section
open Go.Joins
variable {H : Type} {enc : TypeId × Value → H} {P : Program} {w : World} {base : Nat} {spare : Nat → Bool} {held : Bool}
theorem open_agg3 {r : Reach} {b0 : Nat} {t : TypeId} {f0 f1 f2 : Field} {v : Value} {d : DataW H} {p : List MemPlace} (hs : P.underlying t = some (.struct #[f0, f1, f2])) (hone : oneCellFields P #[f0, f1, f2] = true) (hC : P.cellsOf t = 3)
    (hv : Value.okWide P w r b0 t v) (h : DataW.Trod enc P w base spare held t v d p) :
    ∃ (v0 v1 v2 : Value) (y0 y1 y2 : DataW H × List MemPlace) (n : Nat), v = .agg #[v0, v1, v2] ∧ d = .agg [y0.1, y1.1, y2.1] ∧ p = y0.2 ++ (y1.2 ++ y2.2) ∧
      DataW.trod enc P w base spare held n f0.type [v0] = some y0 ∧ DataW.trod enc P w base spare held n f1.type [v1] = some y1 ∧ DataW.trod enc P w base spare held n f2.type [v2] = some y2 := by
  obtain ⟨cs, rfl, hsz⟩ := okWide_struct hs hv
  obtain ⟨l⟩ := cs
  match l, hsz.trans hC with
  | [c0, c1, c2], _ =>
    obtain ⟨fuel, hf⟩ := h
    obtain ⟨xs, n, _, hx, _, hlen, hg⟩ := DataW.trod_struct hs hf
    obtain ⟨o0, k0⟩ := hone_of hone 0 f0 rfl
    obtain ⟨o1, k1⟩ := hone_of hone 1 f1 rfl
    obtain ⟨o2, k2⟩ := hone_of hone 2 f2 rfl
    match xs, hlen with
    | [y0, y1, y2], _ =>
      simp only [Prod.mk.injEq] at hx
      exact ⟨c0, c1, c2, y0, y1, y2, n, rfl, by simpa using hx.1, by simpa using hx.2, by simpa [Value.cells, o0, k0] using hg 0 f0 rfl, by simpa [Value.cells, o1, k1] using hg 1 f1 rfl, by simpa [Value.cells, o2, k2] using hg 2 f2 rfl⟩
end

set_option maxRecDepth 100000 in
theorem job_of {H : Type} {enc : TypeId × Value → H} {w : World} {base b0 : Nat} {spare : Nat → Bool} {held : Bool} {r : Reach} {v : Value} {d : DataW H} {p : List MemPlace}
    (hv : Value.okWide Try.prog w r b0 85 v) (h : DataW.Trod enc Try.prog w base spare held 85 v d p) :
    ∃ (ta tm ne : Int), v = .agg #[.int .i64 ta, .int .i64 tm, .int .i64 ne] := by
  obtain ⟨v0, v1, v2, y0, y1, y2, n, rfl, _, _, h0, h1, h2⟩ := open_agg3 Try.underlying85 (by kernel_rfl) cellsJobL hv h
  obtain ⟨a0, e0, _, _⟩ := DataW.trod_int Try.underlying3 h0
  obtain ⟨a1, e1, _, _⟩ := DataW.trod_int Try.underlying3 h1
  obtain ⟨a2, e2, _, _⟩ := DataW.trod_int Try.underlying3 h2
  simp at e0 e1 e2
  subst e0 e1 e2
  exact ⟨_, _, _, rfl⟩

end Go.Proofs.Ytjondedkgkohfaa
