/- Slices of strings of the call's own; strings.Join over them. -/
import Derived.Test.YthdclaljgimclaaDoorDec
import Derived.Test.YthdclaljgimclaaDoorM1
import Derived.Test.YthdclaljgimclaaDoorM2
import Derived.Test.YthdclaljgimclaaDoorShJ
namespace Go.Proofs.YthdclaljgimclaaDoor
open Go.RowKit
set_option linter.unusedVariables false

theorem info_str : (Tryd.prog.info? 9).map (fun i => (i.zero, i.size, i.bytes)) = some (some (.string ⟨#[]⟩), 1, 16) := by kernel_rfl

/-- The slice value v is the call's own and holds the strings xs. -/
def OwnS (w : World) (B : Nat) (v : Value) (xs : List (List UInt8)) : Prop := w.ownsRow B 9 1 v xs.length (xs.map fun x => (str x : Value))

theorem OwnS.form {w : World} {B : Nat} {v : Value} {zs : List (List UInt8)} (h : OwnS w B v zs) : ∃ A c, v = .slice A zs.length c := by
  rcases h.2 with ⟨e, h0⟩ | ⟨g, cap, cur, e, _⟩
  · exact ⟨none, 0, by rw [e, h0]⟩
  · exact ⟨_, cap, e⟩
theorem OwnS.snoc {w : World} {B : Nat} {v : Value} {zs : List (List UInt8)} {z : List UInt8} (h : w.ownsRow B 9 1 v (zs.length + 1) (zs.map (fun x => (str x : Value)) ++ [str z])) : OwnS w B v (zs ++ [z]) := by
  unfold OwnS
  rw [List.map_append, List.length_append]
  simpa using h
theorem own_s {w w' : World} {B : Nat} {v : Value} {n : Nat} {xs : List Value} (h : w.ownsRow B 9 1 v n xs) (hb : Below w.heap.size w w') : w'.ownsRow B 9 1 v n xs :=
  h.kept (row := none) ⟨hb.os, hb.tape, hb.output, hb.size, fun k hk _ => hb.block k hk⟩ (by cases v.ownBlock <;> simp)

theorem OwnS.at_ {w : World} {B : Nat} {v : Value} {xs : List (List UInt8)} (h : OwnS w B v xs) (hx : xs ≠ []) :
    ∃ g c, v = .slice (some ⟨g, 0, none⟩) xs.length c ∧ g < w.heap.size ∧ B ≤ g ∧ ∀ j x, xs[j]? = some x → w.cell? ⟨g, j, none⟩ = some (str x) := by
  rcases h.2 with ⟨_, h0⟩ | ⟨g, cap, cur, e, hB, hg, _⟩
  · exact absurd (List.length_eq_zero_iff.1 h0) hx
  · have hlt : g < w.heap.size := by
      rcases Nat.lt_or_ge g w.heap.size with hlt | hge
      · exact hlt
      · rw [Array.getElem?_eq_none hge] at hg; cases hg
    refine ⟨g, cap, e, hlt, hB, fun j x hj => ?_⟩
    subst e
    have := h.cells (g := g) rfl j (str x) (by rw [List.getElem?_map, hj]; rfl)
    have ea : (⟨g, 0, none⟩ : Addr).add j = ⟨g, j, none⟩ := by unfold Addr.add; split <;> simp_all
    rw [ea] at this
    exact this

theorem OwnS.belowS {w w' : World} {B : Nat} {v : Value} {xs : List (List UInt8)} (h : OwnS w B v xs) (hb : Below w.heap.size w w') : OwnS w' B v xs := own_s h hb
theorem joinB_two (s a b : List UInt8) (r : List (List UInt8)) : Lib.join (a :: b :: r) s = a ++ s ++ Lib.join (b :: r) s := by
  simp [Lib.join, List.intercalate, List.intersperse]
theorem joinB_one (s a : List UInt8) : Lib.join [a] s = a := by simp [Lib.join, List.intercalate, List.intersperse]
theorem joinB_nil (s : List UInt8) : Lib.join [] s = [] := by simp [Lib.join, List.intercalate, List.intersperse]
theorem joinB_C (c : UInt8) : ∀ xs : List (List UInt8), Lib.join xs [c] = joinC c xs
  | [] => joinB_nil _
  | [a] => joinB_one _ a
  | a :: b :: r => by
    rw [joinB_two, joinB_C c (b :: r)]
    show a ++ [c] ++ _ = a ++ c :: joinC c (b :: r)
    simp

/-- strings.Join over a slice of the call's own. -/
theorem joinX_any (w : World) (B : Nat) (v : Value) (xs : List (List UInt8)) (c : UInt8) (ho : OwnS w B v xs) (hl : (joinC c xs).length ≤ 1000) (hn : xs.length ≤ 1000) :
    Calls Tryd.prog 31 #[v, .string ⟨#[c]⟩] w (StrRes (joinC c xs) w) := by
  have e : ∀ ys : List (List UInt8), (ys.map fun x => (⟨x.toArray⟩ : ByteArray)).map (fun b => b.data.toList) = ys := fun ys => by
    rw [List.map_map]
    induction ys with
    | nil => rfl
    | cons y ys ih => rw [List.map_cons, ih]; rfl
  by_cases h0 : xs = []
  · subst h0
    obtain ⟨A, c2, rfl⟩ := ho.form
    refine (Any.strings_Join_none Tryd.lays156 Tryd.Builder_Extra_156 A c2 ⟨#[c]⟩ w).mono ?_
    rintro e w' ⟨rfl, rfl⟩
    exact ⟨rfl, Below.refl _ _⟩
  · rcases ho.2 with ⟨_, hz⟩ | ⟨g, cap, cur, rfl, hB, hg, hrest⟩
    · exact absurd (List.length_eq_zero_iff.1 hz) h0
    · have hlt : g < w.heap.size := by
        rcases Nat.lt_or_ge g w.heap.size with hlt | hge
        · exact hlt
        · rw [Array.getElem?_eq_none hge] at hg; cases hg
      have hc := ho.cells (g := g) rfl
      have hcap : xs.length ≤ cap := hrest.1
      have h := Any.strings_Join Tryd.lays156 Tryd.Builder_Extra_156 g 0 cap (xs.map fun x => (⟨x.toArray⟩ : ByteArray)) ⟨#[c]⟩ w (fun j x hx => by
        rw [List.getElem?_map] at hx
        obtain ⟨y, hy, rfl⟩ := Option.map_eq_some_iff.1 hx
        have := hc j (str y) (by rw [List.getElem?_map, hy]; rfl)
        have ea : (⟨g, 0, none⟩ : Addr).add j = ⟨g, j, none⟩ := by unfold Addr.add; split <;> simp_all
        rw [ea] at this
        rw [Nat.zero_add]
        exact this) hlt (by rw [List.length_map]; omega) (by rw [List.length_map]; exact hcap) (by rw [e, show (#[c] : Array UInt8).toList = [c] from rfl, joinB_C]; exact Nat.le_trans hl (by decide))
      rw [e, show (#[c] : Array UInt8).toList = [c] from rfl, joinB_C, List.length_map] at h
      exact h.mono fun e w' hh => hh

end Go.Proofs.YthdclaljgimclaaDoor
