/- Contract of the program's search of a least fixed number: whatever function it asks, as long as that one only writes memory of its own. -/
import Derived.Test.YtobkbbgllapcoabRespT
import Derived.ScopeJumps
import Derived.WalkMore
import Derived.Shelf.Abstract
namespace Go.Proofs.Ytobkbbgllapcoab
open Go.RowKit
set_option linter.unusedVariables false

def resN (o : Option Nat) : Nat × Bool := (o.getD 0, o.isSome)
/-- A number and whether there is one. -/
def NbRes (v : Nat) (b : Bool) (w : World) (e : Ending) (w' : World) : Prop := e = .returned (.tuple #[.int .i64 (v : Int), .bool b]) ∧ Below w.heap.size w w'

/-- What is asked of the function that the search calls. -/
def NextIs (k : Nat) (cap : Array Value) (F : Nat → Nat) (lo hi : Nat) (w : World) : Prop :=
  ∀ (W : World) (v : Nat), lo ≤ v → v ≤ hi → Below w.heap.size w W → Calls Try.prog k (#[.int .i64 (v : Int)] ++ cap) W fun e W' => e = .returned (.int .i64 (F v : Int)) ∧ Below W.heap.size W W'

def lfW (a : Act) : Nat := (intOf (a.tmps.getD 8 undef)).toNat

set_option maxRecDepth 100000 in
set_option maxHeartbeats 2000000 in
theorem iLeast_is (w : World) (lo hi k : Nat) (cap : Array Value) (F : Nat → Nat) (v : Nat) (b : Bool) (ho : resN (leastN F lo hi) = (v, b)) (hm : ∀ x y, x ≤ y → F x ≤ F y) (hF : ∀ x, lo ≤ x → lo ≤ F x) (hB : ∀ x, x ≤ hi → F x ≤ 1000000000000) (hhi : hi ≤ 100000000) (hlo : lo ≤ 100000000)
    (ek : ∀ args w, (callFunc k args).run Try.prog w = .ok (.enter k args) w) (hfn : NextIs k cap F lo hi w) :
    Calls Try.prog 54 #[.int .i64 (lo : Int), .int .i64 (hi : Int), .func (.func k) #[] cap] w (NbRes v b w) := by
  have HO := Lib.hid ho
  have HM := Lib.hid hm
  have HF := Lib.hid hF
  have HB := Lib.hid hB
  have HFN := Lib.hid hfn
  clear ho hm hF hB hfn
  go_enter Try.func54, Try.ntmps54
  go_wp2
  refine wp_scope_jumps 0 (fun a' w' => Below w.heap.size w w' ∧ ∃ (x : Nat) (u3 u4 u5 u9 u10 u11 u12 u13 u14 u15 u16 u17 u18 u19 u20 u21 : Value), a' = { tmps := #[.int .i64 (lo : Int), .int .i64 (hi : Int), .func (.func k) #[] cap, u3, u4, u5, .int .i64 0, .bool false, .int .i64 (x : Int), u9, u10, u11, u12, u13, u14, u15, u16, u17, u18, u19, u20, u21], defers := [] } ∧ NoneBelow F lo x ∧ x ≤ 1000000000000) (fun a' _ => hi + 1 - lfW a') rfl ?_ ?_
  · by_cases hx : hi < lo
    · obtain ⟨rfl, rfl⟩ : 0 = v ∧ false = b := Prod.mk.inj (by rw [← HO.out, least_past (none_start F lo) hx]; rfl)
      go_wp2
      go_step3
      go_wp2
      simp only [Exit.jump]
      go_ret2
      exact ⟨rfl, Below.refl _ _⟩
    · have hc := HFN.out w lo (Nat.le_refl _) (by omega) (Below.refl _ _)
      have hcb := HB.out lo (by omega)
      by_cases he : F lo = lo
      · have hei : (F lo : Int) = (lo : Int) := by omega
        obtain ⟨rfl, rfl⟩ : lo = v ∧ true = b := Prod.mk.inj (by rw [← HO.out, least_hit (none_start F lo) (by omega) he]; rfl)
        go_wp2
        go_step3
        go_wp2_with (go_at_fn k; refine hc.mono ?_; rintro e w' ⟨rfl, hb'⟩)
        simp only [Exit.jump]
        go_ret2
        exact ⟨rfl, hb'⟩
      · have hei : ¬ (F lo : Int) = (lo : Int) := by omega
        have hnx := none_step HM.out HF.out (none_start F lo)
        have HN := Lib.hid hnx
        clear hnx
        go_wp2
        go_step3
        go_wp2_with (go_at_fn k; refine hc.mono ?_; rintro e w' ⟨rfl, hb'⟩)
        go_step3
        exact ⟨rfl, hb', F lo, _, _, _, _, _, _, _, _, _, _, _, _, _, _, _, _, rfl, HN.out, hcb⟩
  · rintro a' w' ⟨hb, x, u3, u4, u5, u9, u10, u11, u12, u13, u14, u15, u16, u17, u18, u19, u20, u21, rfl, hnn, hxb⟩
    have HN := Lib.hid hnn
    have HW := Lib.hid hb
    have hge := hnn.1
    clear hnn hb
    by_cases hx : hi < x
    · obtain ⟨rfl, rfl⟩ : 0 = v ∧ false = b := Prod.mk.inj (by rw [← HO.out, least_past HN.out hx]; rfl)
      go_wp2
      simp only [Exit.jump]
      go_ret2
      exact ⟨rfl, HW.out⟩
    · have hc := HFN.out w' x hge (by omega) HW.out
      have hcb := HB.out x (by omega)
      by_cases he : F x = x
      · have hei : (F x : Int) = (x : Int) := by omega
        obtain ⟨rfl, rfl⟩ : x = v ∧ true = b := Prod.mk.inj (by rw [← HO.out, least_hit HN.out (by omega) he]; rfl)
        go_wp2_with (go_at_fn k; refine hc.mono ?_; rintro e w2 ⟨rfl, hb'⟩)
        simp only [Exit.jump]
        go_ret2
        exact ⟨rfl, bl_trans HW.out hb'⟩
      · have hei : ¬ (F x : Int) = (x : Int) := by omega
        have hnx := none_step HM.out HF.out HN.out
        have hlt := none_le HM.out HF.out HN.out
        have HN2 := Lib.hid hnx
        clear hnx
        go_wp2_with (go_at_fn k; refine hc.mono ?_; rintro e w2 ⟨rfl, hb'⟩)
        go_step3
        exact ⟨rfl, ⟨bl_trans HW.out hb', F x, _, _, _, _, _, _, _, _, _, _, _, _, _, _, _, _, rfl, HN2.out, hcb⟩, by simp [lfW, intOf]; omega⟩

end Go.Proofs.Ytobkbbgllapcoab
