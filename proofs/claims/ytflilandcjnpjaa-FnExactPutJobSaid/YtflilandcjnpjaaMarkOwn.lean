/- Contract of the marks that the exact laws write into a result: into its own memory, and nothing beside. -/
import Derived.Test.YtflilandcjnpjaaExMark
import Derived.Test.YtflilandcjnpjaaM1
import Derived.LoopTactic
namespace Go.Proofs.Ytflilandcjnpjaa
open Go.RowKit

theorem mark_own (w : World) (B : Nat) (A : Option Addr) (n c k0 : Nat) (ts : List Tk) (h : Own w B (.slice A n c) ts) (hn : n ≤ 1048576) (hk0 : k0 ≤ 10) :
    Calls Try.prog 33 #[.slice A n c, .int .i64 k0] w fun e w' => e = .returned (.int .i64 ((k0 + n * 5 : Nat) : Int)) ∧ Own w' B (.slice A n c) (marks k0 n) ∧ w.grownBy w' (Value.slice A n c).ownBlock := by
  rcases h.2 with ⟨e, h0⟩ | ⟨g, cap, cur, e, _⟩
  · injection e with e1 e2 e3
    subst e1 e2 e3
    go_enter Try.func33, Try.ntmps33
    go_wp2
    go_loop [1, 5] (fun q i => q = .int .i64 k0 ∧ i = .int .i64 0) (fun _ _ => 0)
    case atStart => exact ⟨rfl, rfl⟩
    case round =>
      obtain ⟨rfl, rfl⟩ := hrel
      go_wp2
      go_ret
      exact ⟨rfl, Own.nil_ _ _, World.grownBy.refl _ _⟩
  · injection e with e1 e2 e3
    subst e1
    exact (mark_any w B g n c k0 ts h hn hk0).mono fun _ _ hh => hh

theorem Own.kept_down {w w' : World} {B M : Nat} {v : Value} {ts : List Tk} {row : Option Nat} (h : Own w B v ts) (hg : w.grownBy w' row) (hv : ∀ k, v.ownBlock = some k → k < M) (hr : ∀ k, row = some k → M ≤ k) : Own w' B v ts := by
  refine World.ownsRow.kept h hg ?_
  rcases he : v.ownBlock with _ | k
  · exact .inl rfl
  · right
    intro e
    have := hv k he
    have := hr k e.symm
    omega

end Go.Proofs.Ytflilandcjnpjaa
