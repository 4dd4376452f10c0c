import Derived.Test.YtgponahmkjohiabGreatDoorT1Pk13
import Derived.Test.YtgponahmkjohiabGreatDoorT1NI
namespace Go.Proofs.YtgponahmkjohiabGreatDoor
open Go.RowKit
set_option linter.unusedVariables false
/-- The machine as it is made. -/
def pm0 (L J E O : Value) : Pm := ⟨L, J, O, .iface 124 (.agg #[]), 0, List.replicate 60 0, 0, List.replicate 60 0, E, .slice none 0 0, .slice none 0 0, false⟩
theorem pm0_cs (A : Option Addr) (n c : Nat) (Aj : Option Addr) (nj cj : Nat) : (pm0 (.slice A n c) (.slice Aj nj cj) (.slice none 0 0) (.slice none 0 0)).cs.toArray = (((Tryz.zeroCells84.setIfInBounds 0 (.slice A n c)).setIfInBounds 1 (.slice Aj nj cj)).setIfInBounds 3 (.iface 124 (.agg #[]))) := by kernel_rfl
/-- What newMachine leaves. -/
def NewRes (A : Option Addr) (n c : Nat) (Aj : Option Addr) (nj cj : Nat) (js : List Jb) (P : Po) (b : Bool) (w : World) (e : Ending) (w' : World) : Prop :=
  Below w.heap.size w w' ∧ if b then ∃ (M g F X ge : Nat) (p : Pm), e = .returned (.tuple #[.pointer (some ⟨M, 0, none⟩), .bool true]) ∧ PS w' w.heap.size M A n c Aj nj cj P g F X (initM js) (fun _ => 0) p ∧ p.E = .slice (some ⟨ge, 0, none⟩) js.length js.length
    else e = .returned (.tuple #[.pointer none, .bool false])
theorem ps_init {W : World} {B M : Nat} {A : Option Addr} {n c : Nat} {Aj : Option Addr} {nj cj : Nat} {P : Po} {g F X : Nat} {js : List Jb} {ge : Nat} {O : Value} (hp : PAt W M (pm0 (.slice A n c) (.slice Aj nj cj) (.slice (some ⟨ge, 0, none⟩) js.length js.length) O)) (bM : B ≤ M) (he : OwnZ W B (.slice (some ⟨ge, 0, none⟩) js.length js.length) (List.replicate js.length (-1))) (hgM : ge ≠ M) (ord : OrdP W M O P g F X) (oM : g ≠ M ∧ F ≠ M ∧ X ≠ M) (oE : ge ≠ g ∧ ge ≠ F ∧ ge ≠ X) :
    PS W B M A n c Aj nj cj P g F X (initM js) (fun _ => 0) (pm0 (.slice A n c) (.slice Aj nj cj) (.slice (some ⟨ge, 0, none⟩) js.length js.length) O) :=
  ⟨hp, bM, rfl, rfl, rfl, rfl, rfl, rfl, fun k hk => (by
    show (List.replicate 60 (0 : Int)).getD k 0 = 0
    rw [List.getD, List.getElem?_replicate, if_pos hk]
    rfl), he, ⟨rfl, .inl ⟨rfl, rfl⟩⟩, ⟨rfl, .inl ⟨rfl, rfl⟩⟩, fun k _ e => (by cases e), fun k _ e => (by cases e), fun k e _ => (by cases e), fun e => hgM (Option.some.inj e), fun e => (by cases e), fun e => (by cases e), ord, oM, fun x e => (Option.some.inj e) ▸ oE, fun x e => (by cases e), fun x e => (by cases e)⟩
set_option maxRecDepth 100000 in
set_option maxHeartbeats 8000000 in
theorem iNew_is (w : World) (A : Option Addr) (n c : Nat) (ts : List Tk) (hT : Tks w w.heap.size A n ts) (hn : n ≤ 1048576) (Aj : Option Addr) (nj cj : Nat) (js : List Jb) (hJ : Jbs w w.heap.size Aj nj js) (hj60 : js.length ≤ 60) (pol : Int) (e0 : Addr) (he : EG w e0) (X Y : Nat) (b : Bool) (hX : polX ts pol = (X, Y)) (hb : polB ts pol = b) :
    Calls Tryz.prog 47 #[.slice A n c, .slice Aj nj cj, .int .i64 pol] w (NewRes A n c Aj nj cj js ⟨pol == 1, (X : Int), (Y : Int)⟩ b w) := by
  have hnj : nj = js.length := hJ.len.symm
  subst hnj
  obtain ⟨W1, hW1⟩ : ∃ W1, w.alloc (.cells (((Tryz.zeroCells84.setIfInBounds 0 (.slice A n c)).setIfInBounds 1 (.slice Aj js.length cj)).setIfInBounds 3 (.iface 124 (.agg #[]))) 84) = W1 := ⟨_, rfl⟩
  have hb1 : Below w.heap.size w W1 := hW1 ▸ bl_alloc (Below.refl _ _) _
  have hp1 : PAt W1 w.heap.size (pm0 (.slice A n c) (.slice Aj js.length cj) (.slice none 0 0) (.slice none 0 0)) := ⟨List.length_replicate, List.length_replicate, by rw [pm0_cs]; exact hW1 ▸ Blk.new w _ _⟩
  obtain ⟨W2, hW2⟩ : ∃ W2, W1.alloc (.cells #[.int .i64 (-1)] 3) = W2 := ⟨_, rfl⟩
  have hb2 : Below w.heap.size w W2 := hW2 ▸ bl_alloc hb1 _
  have hL2 : Blk W2 W1.heap.size 3 #[.int .i64 (-1)] := hW2 ▸ Blk.new W1 _ _
  have hp2 : PAt W2 w.heap.size (pm0 (.slice A n c) (.slice Aj js.length cj) (.slice none 0 0) (.slice none 0 0)) := hW2 ▸ hp1.alloc _
  have HP2 := Lib.hid hp2
  have HB2 := Lib.hid hb2
  have HB1 := Lib.hid hb1
  have HP1 := Lib.hid hp1
  have hsz1 : W1.heap.size = w.heap.size + 1 := by rw [← hW1]; simp
  have hRP := iRepeat_is W2 W1.heap.size js.length hL2 hj60
  have HRP := Lib.hid hRP
  have HT := Lib.hid hT
  have HJ := Lib.hid hJ
  have HE := Lib.hid he
  have HX := Lib.hid hX
  have HB := Lib.hid hb
  have hs1 := hb1.size
  have hs2 := hb2.size
  have hMl := hp2.lt
  clear hb1 hp1 hb2 hL2 hp2 hT hJ he hX hb hRP hsz1
  go_enter Tryz.func47, Tryz.ntmps47
  go_wp2_with fail
  refine HRP.out.mono ?_
  rintro e w3 ⟨ge, rfl, ho3, hb3⟩
  have p3 := HP2.out.bel hb3
  have c126 : w3.cell? ⟨w.heap.size, 126, none⟩ = some (.slice none 0 0) := p3.c126
  have f3 := p3.frozen
  have hge : W2.heap.size ≤ ge ∧ ge < w3.heap.size := ho3.lt
  have hs3 := hb3.size
  obtain ⟨w4, hw4⟩ : ∃ w4, w3.setCell ⟨w.heap.size, 126, none⟩ (.slice (some ⟨ge, 0, none⟩) js.length js.length) = w4 := ⟨_, rfl⟩
  have HP4 := Lib.hid (show PAt w4 w.heap.size (pm0 (.slice A n c) (.slice Aj js.length cj) (.slice (some ⟨ge, 0, none⟩) js.length js.length) (.slice none 0 0)) from (by rw [← hw4]; exact p3.sE (.slice (some ⟨ge, 0, none⟩) js.length js.length)))
  have HB4 := Lib.hid (show Below w.heap.size w w4 from (by rw [← hw4]; exact (blB HB2.out hs2 hb3).setCell (Nat.le_refl _) _))
  have HO4 := Lib.hid (show OwnZ w4 w.heap.size (.slice (some ⟨ge, 0, none⟩) js.length js.length) (List.replicate js.length (-1)) from (by rw [← hw4]; exact ((ho3.less (B' := w.heap.size) (by omega)).kp (S := fun x => x = w.heap.size) (Kp.set (S := fun x => x = w.heap.size) (a := ⟨w.heap.size, 126, none⟩) (Kp.refl w3 _) (.inl rfl) _) (fun x e1 e2 => by have e3 : ge = x := Option.some.inj e1; omega))))
  have hs4 : w3.heap.size ≤ w4.heap.size := by rw [← hw4]; simp [World.setCell]
  have hgeM : ge ≠ w.heap.size := by omega
  have d2 : w4.cell? ⟨w.heap.size, 2, none⟩ = some (.slice none 0 0) := HP4.out.c2
  have f4 := HP4.out.frozen
  clear p3 ho3 hb3 HRP
  by_cases hp0 : pol = 0
  · subst hp0
    have t1 : ((0 : Int) == 0) = true := rfl
    obtain ⟨rfl, rfl⟩ : X = 1 ∧ Y = 1 := by have h := HX.out; unfold polX at h; rw [if_pos rfl] at h; injection h with h1 h2; exact ⟨h1.symm, h2.symm⟩
    obtain rfl : b = true := HB.out.symm
    obtain ⟨w5, hw5⟩ : ∃ w5, w4.alloc (.cells #[.func (.func 90) #[] #[], .func (.func 91) #[] #[]] 126) = w5 := ⟨_, rfl⟩
    have hO5 : Blk w5 w4.heap.size 126 #[.func (.func 90) #[] #[], .func (.func 91) #[] #[]] := hw5 ▸ Blk.new w4 _ _
    have hb5 : Below w4.heap.size w4 w5 := hw5 ▸ bl_alloc (Below.refl _ _) _
    have e2 : w5.cell? ⟨w.heap.size, 2, none⟩ = some (.slice none 0 0) := (HP4.out.bel hb5).c2
    have f5 := (HP4.out.bel hb5).frozen
    have HP6 := Lib.hid ((HP4.out.bel hb5).sO (.slice (some ⟨w4.heap.size, 0, none⟩) 2 2))
    have hk6 : Kp w5 (w5.setCell ⟨w.heap.size, 2, none⟩ (.slice (some ⟨w4.heap.size, 0, none⟩) 2 2)) (fun x => x = w.heap.size) := Kp.set (S := fun x => x = w.heap.size) (a := ⟨w.heap.size, 2, none⟩) (Kp.refl w5 _) (.inl rfl) _
    have hlt5 := hO5.lt
    have hX6 : Hid (NewRes A n c Aj js.length cj js ⟨(0 : Int) == 1, ((1 : Nat) : Int), ((1 : Nat) : Int)⟩ true w (.returned (.tuple #[.pointer (some ⟨w.heap.size, 0, none⟩), .bool true])) (w5.setCell ⟨w.heap.size, 2, none⟩ (.slice (some ⟨w4.heap.size, 0, none⟩) 2 2))) := Lib.hid ⟨((blB HB4.out (by omega) hb5).setCell (Nat.le_refl _) _), by
      rw [if_pos rfl]
      refine ⟨w.heap.size, w4.heap.size, w4.heap.size, w4.heap.size, ge, _, rfl, ps_init HP6.out (Nat.le_refl _) ((HO4.out.below hb5).kp hk6 (fun x e1 e2 => by have e3 : ge = x := Option.some.inj e1; omega)) hgeM ?_ (by omega) (by omega), rfl⟩
      refine ⟨fun _ => ⟨rfl, hO5.kp hk6 (by omega)⟩, fun h => (by cases h), ?_⟩
      simp [World.setCell]
      omega⟩
    clear hk6 hO5 hb5
    go_wp2
    go_ret2
    exact hX6.out
  have t0 : (pol == 0) = false := by rw [beq_eq_false_iff_ne]; exact hp0
  by_cases hp1 : pol = 1
  case neg =>
    have t1 : (pol == 1) = false := by rw [beq_eq_false_iff_ne]; exact hp1
    obtain rfl : b = false := by rw [← HB.out]; unfold polB; rw [if_neg hp0, t1, Bool.and_false]
    have hX6 : Hid (NewRes A n c Aj js.length cj js ⟨pol == 1, (X : Int), (Y : Int)⟩ false w (.returned (.tuple #[.pointer none, .bool false])) w4) := Lib.hid ⟨HB4.out, by rw [if_neg (by decide)]⟩
    have HN := Lib.hid (And.intro hp0 hp1)
    rw [t1] at hX6 ⊢
    clear hp0 hp1
    go_wp2
    go_ret2
    exact hX6.out
  subst hp1
  have t1 : ((1 : Int) == 1) = true := rfl
  have hfX : facV ts = (X, Y) := HX.out
  obtain ⟨bf, hbf⟩ : ∃ bf, facB ts = bf := ⟨_, rfl⟩
  have hbb : b = bf := by rw [← HB.out, ← hbf]; unfold polB; rw [if_neg (by decide)]; simp
  subst hbb
  have HFA := Lib.hid (iFac_is w4 A n c ts ((HT.out.below HB4.out).more (by have := HB4.out.size; omega)) hn e0 (HE.out.below HB4.out) X Y b hfX hbf)
  clear hp0 t0 hfX hbf
  go_wp2_with fail
  refine HFA.out.mono ?_
  rintro e w5 ⟨rfl, hb5⟩
  have hB4s := HB4.out.size
  have hs5 := hb5.size
  obtain ⟨w6, hw6⟩ : ∃ w6, w5.alloc (.cells #[.int .i64 0, .int .i64 0] 87) = w6 := ⟨_, rfl⟩
  have hn6 : Blk w6 w5.heap.size 87 #[.int .i64 0, .int .i64 0] := hw6 ▸ Blk.new w5 _ _
  have hb6 : Below w5.heap.size w5 w6 := hw6 ▸ bl_alloc (Below.refl _ _) _
  have x0 : w6.cell? ⟨w5.heap.size, 0, none⟩ = some (.int .i64 0) := hn6.cell 0
  have x1 : w6.cell? ⟨w5.heap.size, 1, none⟩ = some (.int .i64 0) := hn6.cell 1
  have f6 := hn6.frozen
  obtain ⟨w7, hw7⟩ : ∃ w7, (w6.setCell ⟨w5.heap.size, 0, none⟩ (.int .i64 (X : Int))).setCell ⟨w5.heap.size, 1, none⟩ (.int .i64 (Y : Int)) = w7 := ⟨_, rfl⟩
  have hn7 : Blk w7 w5.heap.size 87 #[.int .i64 (X : Int), .int .i64 (Y : Int)] := by
    rw [← hw7]
    have h := (hn6.set_ 0 (.int .i64 (X : Int))).set_ 1 (.int .i64 (Y : Int))
    simpa using h
  have hb7 : Below w5.heap.size w5 w7 := by rw [← hw7]; exact (bl_set hb6 (by dsimp only; omega) _).setCell (by dsimp only; omega) _
  have y0 : w7.cell? ⟨w5.heap.size, 0, none⟩ = some (.int .i64 (X : Int)) := hn7.cell 0
  have y1 : w7.cell? ⟨w5.heap.size, 1, none⟩ = some (.int .i64 (Y : Int)) := hn7.cell 1
  have HB7 := Lib.hid (show Below w.heap.size w w7 from blB (blB HB4.out hB4s hb5) (by omega) hb7)
  have HP7 := Lib.hid ((HP4.out.bel hb5).bel hb7)
  have HO7 := Lib.hid ((HO4.out.below hb5).below hb7)
  have hs7 := hb7.size
  clear hn6 hb6 hn7 hb7 hb5 HFA
  cases b
  · have hX8 : Hid (NewRes A n c Aj js.length cj js ⟨true, (X : Int), (Y : Int)⟩ false w (.returned (.tuple #[.pointer none, .bool false])) w7) := Lib.hid ⟨HB7.out, by rw [if_neg (by decide)]⟩
    go_wp2
    go_ret2
    exact hX8.out
  · go_wp2_with fail
    refine (iDueKey_is w7 w.heap.size (X : Int) (Y : Int)).mono ?_
    rintro e w8 ⟨F, K, rfl, hF8, hK8, hFl, hKl, hb8⟩
    obtain ⟨w9, hw9⟩ : ∃ w9, w8.alloc (.cells #[dueF F K, .func (.func 90) #[] #[], .func (.func 91) #[] #[]] 126) = w9 := ⟨_, rfl⟩
    have hO9 : Blk w9 w8.heap.size 126 #[dueF F K, .func (.func 90) #[] #[], .func (.func 91) #[] #[]] := hw9 ▸ Blk.new w8 _ _
    have hb9 : Below w8.heap.size w8 w9 := hw9 ▸ bl_alloc (Below.refl _ _) _
    have hF9 := hF8.below hb9 hF8.lt
    have hK9 := hK8.below hb9 hK8.lt
    have hs8 := hb8.size
    have hs9 := hb9.size
    have p9 := (HP7.out.bel hb8).bel hb9
    have e2 : w9.cell? ⟨w.heap.size, 2, none⟩ = some (.slice none 0 0) := p9.c2
    have f9 := p9.frozen
    have HP10 := Lib.hid (p9.sO (.slice (some ⟨w8.heap.size, 0, none⟩) 3 3))
    have hk10 : Kp w9 (w9.setCell ⟨w.heap.size, 2, none⟩ (.slice (some ⟨w8.heap.size, 0, none⟩) 3 3)) (fun x => x = w.heap.size) := Kp.set (S := fun x => x = w.heap.size) (a := ⟨w.heap.size, 2, none⟩) (Kp.refl w9 _) (.inl rfl) _
    have hlt9 := hO9.lt
    have hF8l := hF8.lt
    have hK8l := hK8.lt
    have hX10 : Hid (NewRes A n c Aj js.length cj js ⟨true, (X : Int), (Y : Int)⟩ true w (.returned (.tuple #[.pointer (some ⟨w.heap.size, 0, none⟩), .bool true])) (w9.setCell ⟨w.heap.size, 2, none⟩ (.slice (some ⟨w8.heap.size, 0, none⟩) 3 3))) := Lib.hid ⟨((blB (blB HB7.out (by omega) hb8) (by omega) hb9).setCell (Nat.le_refl _) _), by
      rw [if_pos rfl]
      refine ⟨w.heap.size, w8.heap.size, F, K, ge, _, rfl, ps_init HP10.out (Nat.le_refl _) (((HO7.out.below hb8).below hb9).kp hk10 (fun x e1 e2 => by have e3 : ge = x := Option.some.inj e1; omega)) hgeM ?_ (by omega) (by omega), rfl⟩
      refine ⟨fun h => (by cases h), fun _ => ⟨rfl, hO9.kp hk10 (by omega), hF9.kp hk10 (by omega), hK9.kp hk10 (by omega)⟩, ?_⟩
      simp [World.setCell]
      omega⟩
    clear hk10 hO9 hF9 hK9 hF8 hK8 hb8 hb9 p9
    unfold dueF at hw9 ⊢
    go_wp2
    go_ret2
    exact hX10.out
end Go.Proofs.YtgponahmkjohiabGreatDoor
