/- Runs in memory: read, copied, compared; what the exact laws do with them. -/
import Derived.Test.YtjondedkgkohfaaZx6
import Derived.Test.YtjondedkgkohfaaTwo0
namespace Go.Proofs.Ytjondedkgkohfaa
open Go.RowKit
set_option linter.unusedVariables false

theorem OwnZ.setb {w : World} {B : Nat} {v : Value} {zs : List Int} (h : OwnZ w B v zs) {a : Addr} (ha : a.block < B) (u : Value) : OwnZ (w.setCell a u) B v zs := ownsRow_setCell_below h ha u
theorem Blk.drewR {w : World} {g : Nat} {t : TypeId} {cs : Array Value} (h : Blk w g t cs) : Blk w.drew g t cs := h
theorem Blk.four {w : World} {g : Nat} {t : TypeId} {a b c d : Value} (h : Blk w g t #[a, b, c, d]) : w.cell? ⟨g, 0, none⟩ = some a ∧ w.cell? ⟨g, 1, none⟩ = some b ∧ w.cell? ⟨g, 2, none⟩ = some c ∧ w.cell? ⟨g, 3, none⟩ = some d := ⟨h.cell 0, h.cell 1, h.cell 2, h.cell 3⟩
/-- Three slices read as the lists of a run. -/
structure RnAt (w : World) (A1 : Option Addr) (n1 : Nat) (A2 : Option Addr) (n2 : Nat) (A3 : Option Addr) (n3 : Nat) (en tr sw : List Int) : Prop where
  e : Zs w w.heap.size A1 n1 en
  t : Zs w w.heap.size A2 n2 tr
  s : Zs w w.heap.size A3 n3 sw
theorem RnAt.below {w w' : World} {A1 A2 A3 : Option Addr} {n1 n2 n3 : Nat} {en tr sw : List Int} (h : RnAt w A1 n1 A2 n2 A3 n3 en tr sw) (hb : Below w.heap.size w w') : RnAt w' A1 n1 A2 n2 A3 n3 en tr sw :=
  ⟨(h.e.below hb).more hb.size, (h.t.below hb).more hb.size, (h.s.below hb).more hb.size⟩

/-- What a count of a run's numbers leaves. -/
def LeftRes (l : Int) (n : Nat) (w : World) (e : Ending) (w' : World) : Prop :=
  (∃ z : Int, e = .returned (.int .i64 z) ∧ ((l < (n : Int) ∧ z = -1) ∨ ((n : Int) ≤ l ∧ z = l - (n : Int)))) ∧ Below w.heap.size w w'

set_option maxHeartbeats 400000 in
theorem szI_any (w : World) (A : Option Addr) (n c : Nat) (hn : n ≤ 9223372036854775807) (l : Int) (h0 : 0 ≤ l) (h1 : l ≤ 1048576) :
    Calls Try.prog 67 #[.slice A n c, .int .i64 l] w (LeftRes l n w) := by
  have kw : IntKind.i64.wrap (l - (n : Int)) = l - (n : Int) := IntWalk.i64_in _ (by omega)
  by_cases h : l < (n : Int)
  · have d1 : l - (n : Int) < 0 := by omega
    go_enter Try.func67, Try.ntmps67
    go_wp2
    go_ret
    exact ⟨⟨_, rfl, .inl ⟨h, rfl⟩⟩, Below.refl _ _⟩
  · have d1 : ¬ l - (n : Int) < 0 := by omega
    go_enter Try.func67, Try.ntmps67
    go_wp2
    go_ret
    exact ⟨⟨_, rfl, .inr ⟨by omega, rfl⟩⟩, Below.refl _ _⟩

set_option maxHeartbeats 1000000 in
theorem szRun_any (w : World) (A1 : Option Addr) (n1 c1 : Nat) (A2 : Option Addr) (n2 c2 : Nat) (A3 : Option Addr) (n3 c3 : Nat) (hi : Bool)
    (m1 : n1 ≤ 9223372036854775807) (m2 : n2 ≤ 9223372036854775807) (m3 : n3 ≤ 9223372036854775807) (l : Int) (h0 : 0 ≤ l) (h1 : l ≤ 1048576) :
    Calls Try.prog 39 #[.agg #[.slice A1 n1 c1, .slice A2 n2 c2, .slice A3 n3 c3, .bool hi], .int .i64 l] w (LeftRes l (n1 + n2 + n3) w) := by
  go_enter Try.func39, Try.ntmps39
  go_wp2_with fail
  refine (szI_any _ A1 n1 c1 m1 l h0 h1).mono ?_
  rintro e w1 ⟨⟨z, rfl, hz⟩, hb⟩
  have HB1 := Lib.hid (bl_trans (bl_alloc (Below.refl _ w) _) hb)
  have bA1 := Lib.hid ((Blk.new w 50 #[.slice A1 n1 c1, .slice A2 n2 c2, .slice A3 n3 c3, .bool hi]).below hb (by simp))
  clear hb
  rcases hz with ⟨hz, rfl⟩ | ⟨hz, rfl⟩
  · go_wp2
    go_ret
    exact ⟨⟨_, rfl, .inl ⟨by omega, rfl⟩⟩, HB1.out⟩
  have d1 : ¬ l - (n1 : Int) < 0 := by omega
  have cA := bA1.out.cell
  go_wp2_with fail
  refine (szI_any _ A2 n2 c2 m2 (l - (n1 : Int)) (by omega) (by omega)).mono ?_
  rintro e w2 ⟨⟨z, rfl, hz2⟩, hb⟩
  have HB2 := Lib.hid (bl_trans HB1.out hb)
  have bA2 := Lib.hid (bA1.out.below hb bA1.out.lt)
  clear hb cA
  rcases hz2 with ⟨hz2, rfl⟩ | ⟨hz2, rfl⟩
  · go_wp2
    go_ret
    exact ⟨⟨_, rfl, .inl ⟨by omega, rfl⟩⟩, HB2.out⟩
  have d2 : ¬ l - (n1 : Int) - (n2 : Int) < 0 := by omega
  have cA := bA2.out.cell
  go_wp2_with fail
  refine (szI_any _ A3 n3 c3 m3 (l - (n1 : Int) - (n2 : Int)) (by omega) (by omega)).mono ?_
  rintro e w3 ⟨⟨z, rfl, hz3⟩, hb⟩
  have HB3 := Lib.hid (bl_trans HB2.out hb)
  clear hb cA
  rcases hz3 with ⟨hz3, rfl⟩ | ⟨hz3, rfl⟩
  · go_wp2
    go_ret
    exact ⟨⟨_, rfl, .inl ⟨by omega, rfl⟩⟩, HB3.out⟩
  have d3 : ¬ l - (n1 : Int) - (n2 : Int) - (n3 : Int) < 0 := by omega
  go_wp2
  go_ret
  exact ⟨⟨_, rfl, .inr ⟨by omega, by omega⟩⟩, HB3.out⟩

/-- The copy of a run: three slices of the call's own, each in memory of its own. -/
def RnCopy (en tr sw : List Int) (hi : Bool) (w : World) (e : Ending) (w' : World) : Prop :=
  ∃ (A1 : Option Addr) (c1 : Nat) (A2 : Option Addr) (c2 : Nat) (A3 : Option Addr) (c3 s1 s2 : Nat), e = .returned (.agg #[.slice A1 en.length c1, .slice A2 tr.length c2, .slice A3 sw.length c3, .bool hi]) ∧
    OwnZ w' w.heap.size (.slice A1 en.length c1) en ∧ OwnZ w' s1 (.slice A2 tr.length c2) tr ∧ OwnZ w' s2 (.slice A3 sw.length c3) sw ∧
    (∀ k, (Value.slice A1 en.length c1).ownBlock = some k → k < s1) ∧ (∀ k, (Value.slice A2 tr.length c2).ownBlock = some k → k < s2) ∧ w.heap.size ≤ s1 ∧ (s1 ≤ s2 ∧ s2 ≤ w'.heap.size) ∧ Below w.heap.size w w'
theorem RnCopy.reads {w' : World} {A1 A2 A3 : Option Addr} {c1 c2 c3 B s1 s2 : Nat} {en tr sw : List Int} (h1 : OwnZ w' B (.slice A1 en.length c1) en) (h2 : OwnZ w' s1 (.slice A2 tr.length c2) tr) (h3 : OwnZ w' s2 (.slice A3 sw.length c3) sw) :
    RnAt w' A1 en.length A2 tr.length A3 sw.length en tr sw := ⟨h1.reads, h2.reads, h3.reads⟩

set_option maxRecDepth 100000 in
set_option maxHeartbeats 2000000 in
theorem toRun_any (w : World) (A1 : Option Addr) (n1 c1 : Nat) (A2 : Option Addr) (n2 c2 : Nat) (A3 : Option Addr) (n3 c3 : Nat) (hi : Bool) (en tr sw : List Int)
    (h : RnAt w A1 n1 A2 n2 A3 n3 en tr sw) (m1 : n1 ≤ 1048576) (m2 : n2 ≤ 1048576) (m3 : n3 ≤ 1048576) :
    Calls Try.prog 40 #[.agg #[.slice A1 n1 c1, .slice A2 n2 c2, .slice A3 n3 c3, .bool hi]] w (RnCopy en tr sw hi w) := by
  have H := Lib.hid h
  clear h
  go_enter Try.func40, Try.ntmps40
  go_wp2_with fail
  refine (toIntS_any _ A1 n1 c1 en (H.out.below (bl_alloc (bl_alloc (bl_alloc (Below.refl _ w) _) _) _)).e m1).mono ?_
  rintro e w1 ⟨X1, d1, rfl, ho, hb⟩
  have HB1 := Lib.hid (bl_trans (bl_alloc (bl_alloc (bl_alloc (Below.refl _ w) _) _) _) hb)
  have hs1 : w.heap.size + 3 ≤ w1.heap.size := by have := hb.size; simp at this; omega
  have bA1 := Lib.hid ((((Blk.new w 50 #[.slice A1 n1 c1, .slice A2 n2 c2, .slice A3 n3 c3, .bool hi]).alloc _).alloc _).below hb (by simp <;> omega))
  have bR1 : Hid (Blk w1 (w.heap.size + 1) 27 #[.slice none 0 0, .slice none 0 0, .slice none 0 0, .bool false]) := by
    refine Lib.hid (Blk.below ?_ hb (by simp <;> omega))
    have h := (Blk.new (w.alloc (.cells #[.slice A1 n1 c1, .slice A2 n2 c2, .slice A3 n3 c3, .bool hi] 50)) 27 #[.slice none 0 0, .slice none 0 0, .slice none 0 0, .bool false]).alloc (.cells #[.slice none 0 0, .slice none 0 0, .slice none 0 0, .bool false] 27)
    simpa using h
  have bO1 : Hid (Blk w1 (w.heap.size + 2) 27 #[.slice none 0 0, .slice none 0 0, .slice none 0 0, .bool false]) := by
    refine Lib.hid (Blk.below ?_ hb (by simp <;> omega))
    have h := Blk.new ((w.alloc (.cells #[.slice A1 n1 c1, .slice A2 n2 c2, .slice A3 n3 c3, .bool hi] 50)).alloc (.cells #[.slice none 0 0, .slice none 0 0, .slice none 0 0, .bool false] 27)) 27 #[.slice none 0 0, .slice none 0 0, .slice none 0 0, .bool false]
    simpa using h
  have hl1 : ∀ k, (Value.slice X1 en.length d1).ownBlock = some k → w.heap.size + 3 ≤ k ∧ k < w1.heap.size := fun k e => by have h := World.ownsRow.lt ho k e; simp at h; omega
  have HL1 := Lib.hid hl1
  have HO1 : Hid (OwnZ w1 (w.heap.size + 3) (.slice X1 en.length d1) en) := by have h := ho; simp at h; exact Lib.hid h
  clear hb ho hl1
  have cA := bA1.out.cell
  have cO := bO1.out.cell
  have fO := bO1.out.frozen
  go_wp2_with fail
  have HB1s := Lib.hid (bl_set HB1.out (show w.heap.size ≤ (⟨w.heap.size + 2, 0, none⟩ : Addr).block by dsimp only; omega) (.slice X1 en.length d1))
  refine (toIntS_any _ A2 n2 c2 tr (H.out.below HB1s.out).t m2).mono ?_
  rintro e w2 ⟨X2, d2, rfl, ho, hb⟩
  have hss : (w1.setCell ⟨w.heap.size + 2, 0, none⟩ (.slice X1 en.length d1)).heap.size = w1.heap.size := by simp
  have hs2 : w1.heap.size ≤ w2.heap.size := by have := hb.size; omega
  have HB2 := Lib.hid (bl_trans HB1s.out hb)
  have bA2 := Lib.hid ((bA1.out.far (p := ⟨w.heap.size + 2, 0, none⟩) (by dsimp only; omega) _).below hb (by omega))
  have bR2 := Lib.hid ((bR1.out.far (p := ⟨w.heap.size + 2, 0, none⟩) (by dsimp only; omega) _).below hb (by omega))
  have bO2 := Lib.hid ((bO1.out.set_ 0 (.slice X1 en.length d1)).below hb (by omega))
  have HO1s : Hid (OwnZ w2 (w.heap.size + 3) (.slice X1 en.length d1) en) := by
    refine Lib.hid (OwnZ.below ?_ hb)
    exact HO1.out.setb (by dsimp only; omega) _
  have hl2 : ∀ k, (Value.slice X2 tr.length d2).ownBlock = some k → w1.heap.size ≤ k ∧ k < w2.heap.size := fun k e => by have h := World.ownsRow.lt ho k e; omega
  have HL2 := Lib.hid hl2
  have HO2 : Hid (OwnZ w2 w1.heap.size (.slice X2 tr.length d2) tr) := by have h := ho; rw [hss] at h; exact Lib.hid h
  clear hb ho hl2 hss cA cO fO bA1 bR1 bO1 HB1 HB1s HO1
  have cA := bA2.out.cell
  have cO := bO2.out.cell
  have fO := bO2.out.frozen
  go_wp2_with fail
  have HB2s := Lib.hid (bl_set HB2.out (show w.heap.size ≤ (⟨w.heap.size + 2, 1, none⟩ : Addr).block by dsimp only; omega) (.slice X2 tr.length d2))
  refine (toIntS_any _ A3 n3 c3 sw (H.out.below HB2s.out).s m3).mono ?_
  rintro e w3 ⟨X3, d3, rfl, ho, hb⟩
  have hss : (w2.setCell ⟨w.heap.size + 2, 1, none⟩ (.slice X2 tr.length d2)).heap.size = w2.heap.size := by simp
  have hs3 : w2.heap.size ≤ w3.heap.size := by have := hb.size; omega
  have HB3 := Lib.hid (bl_trans HB2s.out hb)
  have bA3 := Lib.hid ((bA2.out.far (p := ⟨w.heap.size + 2, 1, none⟩) (by dsimp only; omega) _).below hb (by omega))
  have bR3 := Lib.hid ((bR2.out.far (p := ⟨w.heap.size + 2, 1, none⟩) (by dsimp only; omega) _).below hb (by omega))
  have bO3 := Lib.hid ((bO2.out.set_ 1 (.slice X2 tr.length d2)).below hb (by omega))
  have HO1t : Hid (OwnZ w3 (w.heap.size + 3) (.slice X1 en.length d1) en) := by
    refine Lib.hid (OwnZ.below ?_ hb)
    exact HO1s.out.setb (by dsimp only; omega) _
  have HO2t : Hid (OwnZ w3 w1.heap.size (.slice X2 tr.length d2) tr) := by
    refine Lib.hid (OwnZ.below ?_ hb)
    exact HO2.out.setb (by dsimp only; omega) _
  have HO3 : Hid (OwnZ w3 w2.heap.size (.slice X3 sw.length d3) sw) := by have h := ho; rw [hss] at h; exact Lib.hid h
  clear hb ho hss cA cO fO bA2 bR2 bO2 HB2 HB2s HO1s HO2
  have cA := bA3.out.cell
  have cO := bO3.out.cell
  have fO := bO3.out.frozen
  have cR := bR3.out.cell
  have fR := bR3.out.frozen
  go_wp2
  refine bodyPost_ret (v := .agg #[.slice X1 en.length d1, .slice X2 tr.length d2, .slice X3 sw.length d3, .bool hi]) (by simp [results, Try.results40, go_sem, cR]) rfl ⟨X1, d1, X2, d2, X3, d3, w1.heap.size, w2.heap.size, rfl, ?_, ?_, ?_, fun k e => (HL1.out k e).2, fun k e => (HL2.out k e).2, by omega, ⟨hs2, by simp; omega⟩, ?_⟩
  · refine OwnZ.less ?_ (Nat.le_add_right w.heap.size 3)
    repeat (refine OwnZ.setb ?_ (by dsimp only; omega) _)
    exact HO1t.out
  · repeat (refine OwnZ.setb ?_ (by dsimp only; omega) _)
    exact HO2t.out
  · repeat (refine OwnZ.setb ?_ (by dsimp only; omega) _)
    exact HO3.out
  · repeat (refine bl_set ?_ (by dsimp only; omega) _)
    exact HB3.out

set_option maxHeartbeats 1000000 in
theorem eqRun_any (w : World) (A1 : Option Addr) (n1 c1 : Nat) (A2 : Option Addr) (n2 c2 : Nat) (A3 : Option Addr) (n3 c3 : Nat) (X1 : Option Addr) (d1 : Nat) (X2 : Option Addr) (d2 : Nat) (X3 : Option Addr) (d3 : Nat) (hi : Bool) (en tr sw : List Int)
    (h : RnAt w A1 n1 A2 n2 A3 n3 en tr sw) (h' : RnAt w X1 n1 X2 n2 X3 n3 en tr sw) (m1 : n1 ≤ 1048576) (m2 : n2 ≤ 1048576) (m3 : n3 ≤ 1048576) :
    Calls Try.prog 41 #[.agg #[.slice A1 n1 c1, .slice A2 n2 c2, .slice A3 n3 c3, .bool hi], .agg #[.slice X1 n1 d1, .slice X2 n2 d2, .slice X3 n3 d3, .bool hi]] w fun e w' => e = .returned (.bool true) ∧ Below w.heap.size w w' := by
  have H := Lib.hid h
  have H' := Lib.hid h'
  clear h h'
  go_enter Try.func41, Try.ntmps41
  go_wp2_with fail
  refine (eqIntS_any _ A1 X1 n1 c1 d1 en (H.out.below (bl_alloc (bl_alloc (Below.refl _ w) _) _)).e (H'.out.below (bl_alloc (bl_alloc (Below.refl _ w) _) _)).e m1).mono ?_
  rintro e w1 ⟨rfl, hb⟩
  have HB1 := Lib.hid (bl_trans (bl_alloc (bl_alloc (Below.refl _ w) _) _) hb)
  have bA1 := Lib.hid (((Blk.new w 27 #[.slice A1 n1 c1, .slice A2 n2 c2, .slice A3 n3 c3, .bool hi]).alloc _).below hb (by simp <;> omega))
  have bX1 : Hid (Blk w1 (w.heap.size + 1) 27 #[.slice X1 n1 d1, .slice X2 n2 d2, .slice X3 n3 d3, .bool hi]) := by
    refine Lib.hid (Blk.below ?_ hb (by simp))
    have h := Blk.new (w.alloc (.cells #[.slice A1 n1 c1, .slice A2 n2 c2, .slice A3 n3 c3, .bool hi] 27)) 27 #[.slice X1 n1 d1, .slice X2 n2 d2, .slice X3 n3 d3, .bool hi]
    simpa using h
  clear hb
  have cA := bA1.out.cell
  have cX := bX1.out.cell
  go_wp2_with fail
  refine (eqIntS_any _ A2 X2 n2 c2 d2 tr (H.out.below HB1.out).t (H'.out.below HB1.out).t m2).mono ?_
  rintro e w2 ⟨rfl, hb⟩
  have HB2 := Lib.hid (bl_trans HB1.out hb)
  have bA2 := Lib.hid (bA1.out.below hb bA1.out.lt)
  have bX2 := Lib.hid (bX1.out.below hb bX1.out.lt)
  clear hb cA cX HB1 bA1 bX1
  have cA := bA2.out.cell
  have cX := bX2.out.cell
  go_wp2_with fail
  refine (eqIntS_any _ A3 X3 n3 c3 d3 sw (H.out.below HB2.out).s (H'.out.below HB2.out).s m3).mono ?_
  rintro e w3 ⟨rfl, hb⟩
  have HB3 := Lib.hid (bl_trans HB2.out hb)
  have bA3 := Lib.hid (bA2.out.below hb bA2.out.lt)
  have bX3 := Lib.hid (bX2.out.below hb bX2.out.lt)
  clear hb cA cX HB2 bA2 bX2
  have cA := bA3.out.cell
  have cX := bX3.out.cell
  go_wp2
  go_ret
  exact ⟨rfl, HB3.out⟩

end Go.Proofs.Ytjondedkgkohfaa
