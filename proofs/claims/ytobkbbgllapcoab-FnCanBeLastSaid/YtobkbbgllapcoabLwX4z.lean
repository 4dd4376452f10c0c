/- The walks of the exact laws of AssignOrder and AnyOrder. -/
import Derived.Test.YtobkbbgllapcoabMA
import Derived.Test.YtobkbbgllapcoabMB
import Derived.Test.YtobkbbgllapcoabMC
namespace Go.Proofs.Ytobkbbgllapcoab
open Go.RowKit
set_option linter.unusedVariables false

theorem OwnZ.readsN {w : World} {B : Nat} {A : Option Addr} {n c : Nat} {zs : List Int} (h : OwnZ w B (.slice A n c) zs) (hn : zs.length = n) : Zs w w.heap.size A n zs := by
  subst hn
  exact h.reads
theorem OwnZ.kept_down {w w' : World} {B M : Nat} {v : Value} {zs : List Int} {row : Option Nat} (h : OwnZ w B v zs) (hg : w.grownBy w' row) (hv : ∀ k, v.ownBlock = some k → k < M) (hr : ∀ k, row = some k → M ≤ k) : OwnZ w' B v zs := by
  refine World.ownsRow.kept h hg ?_
  rcases he : v.ownBlock with _ | k
  · exact .inl rfl
  · right
    intro e
    have := hv k he
    have := hr k e.symm
    omega
theorem anyOf_len (ts : List Tk) : (asgR (anyOf ts)).length ≤ 5 := by
  cases h : anyOf ts with
  | none => exact Nat.zero_le _
  | some o =>
    obtain ⟨h1, h2, _⟩ := any_some h
    show (toZ o).length ≤ 5
    rw [toZ_len, h2.length_eq, List.length_range]
    exact setB_len h1
theorem assignOf_len (ts : List Tk) : (asgR (assignOf ts)).length ≤ 5 := by
  cases h : assignOf ts with
  | none => exact Nat.zero_le _
  | some o =>
    obtain ⟨h1, h2, _⟩ := assign_some h
    show (toZ o).length ≤ 5
    rw [toZ_len, h2.length_eq, List.length_range]
    exact setB_len h1
theorem sAssign_at (w : World) (A : Option Addr) (n c : Nat) (ts : List Tk) (us : List Int) (b : Bool) (h : Tks w w.heap.size A n ts) (hn : n ≤ 1048576) (hu : asgR (assignOf ts) = us ∧ (assignOf ts).isSome = b) :
    Calls Try.prog 42 #[.slice A n c] w (ZsRes2 us b w) := by
  have := sAssign_is w A n c ts h hn _ rfl
  rw [hu.1, hu.2] at this
  exact this
theorem iAny_at (w : World) (A : Option Addr) (n c : Nat) (ts : List Tk) (us : List Int) (b : Bool) (h : Tks w w.heap.size A n ts) (hn : n ≤ 1048576) (hu : asgR (anyOf ts) = us ∧ (anyOf ts).isSome = b) :
    Calls Try.prog 44 #[.slice A n c] w (ZsRes2 us b w) := by
  have := iAny_is w A n c ts h hn _ rfl
  rw [hu.1, hu.2] at this
  exact this
theorem iAssign_at (w : World) (A : Option Addr) (n c : Nat) (ts : List Tk) (us : List Int) (b : Bool) (h : Tks w w.heap.size A n ts) (hn : n ≤ 1048576) (hu : asgR (assignOf ts) = us ∧ (assignOf ts).isSome = b) :
    Calls Try.prog 41 #[.slice A n c] w (ZsRes2 us b w) := by
  have := iAssign_is w A n c ts h hn _ rfl
  rw [hu.1, hu.2] at this
  exact this

end Go.Proofs.Ytobkbbgllapcoab
