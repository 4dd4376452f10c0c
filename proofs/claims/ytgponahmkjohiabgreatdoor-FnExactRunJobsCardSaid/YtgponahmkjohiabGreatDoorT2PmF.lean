import Derived.Test.YtgponahmkjohiabGreatDoorT2PmE
namespace Go.Proofs.YtgponahmkjohiabGreatDoor
open Go.RowKit
set_option linter.unusedVariables false
def fI (q : Nat × Int) : Int := (q.1 : Int)
/-- The machine's block and what it leads to hold the state s, with g ticks done of each job. -/
structure PS (w : World) (B M : Nat) (A : Option Addr) (n c : Nat) (Aj : Option Addr) (nj cj : Nat) (P : Po) (g F X : Nat) (s : Mc) (d : Nat → Int) (p : Pm) : Prop where
  at_ : PAt w M p
  bM : B ≤ M
  L : p.L = .slice A n c
  J : p.J = .slice Aj nj cj
  mo : p.mo = moV s.hi
  cm : p.cm = s.nx
  cn : p.cn = s.wk.length
  lf : p.lf.take s.wk.length = s.wk.map fI
  dn : ∀ k, k < 60 → p.dn.getD k 0 = d k
  e : OwnZ w B p.E s.en
  t : OwnZ w B p.T s.tr
  z : OwnZ w B p.S s.sw
  et : apart p.E p.T
  ez : apart p.E p.S
  tz : apart p.T p.S
  eM : p.E.ownBlock ≠ some M
  tM : p.T.ownBlock ≠ some M
  zM : p.S.ownBlock ≠ some M
  ord : OrdP w M p.O P g F X
  oM : g ≠ M ∧ F ≠ M ∧ X ≠ M
  oE : ∀ x, p.E.ownBlock = some x → x ≠ g ∧ x ≠ F ∧ x ≠ X
  oT : ∀ x, p.T.ownBlock = some x → x ≠ g ∧ x ≠ F ∧ x ≠ X
  oS : ∀ x, p.S.ownBlock = some x → x ≠ g ∧ x ≠ F ∧ x ≠ X
section
variable {w w' : World} {B M : Nat} {A : Option Addr} {n c : Nat} {Aj : Option Addr} {nj cj : Nat} {P : Po} {g F X : Nat} {s : Mc} {d : Nat → Int} {p : Pm}
theorem PS.bel (h : PS w B M A n c Aj nj cj P g F X s d p) (hb : Below w.heap.size w w') : PS w' B M A n c Aj nj cj P g F X s d p :=
  ⟨h.at_.bel hb, h.bM, h.L, h.J, h.mo, h.cm, h.cn, h.lf, h.dn, h.e.below hb, h.t.below hb, h.z.below hb, h.et, h.ez, h.tz, h.eM, h.tM, h.zM, h.ord.bel hb, h.oM, h.oE, h.oT, h.oS⟩
/-- All blocks that the machine writes. -/
def Wr (M : Nat) (p : Pm) (x : Nat) : Prop := x = M ∨ p.E.ownBlock = some x ∨ p.T.ownBlock = some x ∨ p.S.ownBlock = some x
theorem PS.wrB (h : PS w B M A n c Aj nj cj P g F X s d p) (x : Nat) (hx : Wr M p x) : B ≤ x ∧ x < w.heap.size := by
  rcases hx with rfl | e | e | e
  · exact ⟨h.bM, h.at_.lt⟩
  · exact World.ownsRow.lt h.e x e
  · exact World.ownsRow.lt h.t x e
  · exact World.ownsRow.lt h.z x e
end
end Go.Proofs.YtgponahmkjohiabGreatDoor
