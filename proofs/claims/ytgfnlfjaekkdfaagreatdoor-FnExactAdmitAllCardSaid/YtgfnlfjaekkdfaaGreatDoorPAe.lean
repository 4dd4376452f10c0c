/- Contract of the program's AdmitAll, with the two lists apart. Nothing that was there is written. -/
import Derived.Test.YtgfnlfjaekkdfaaGreatDoorPAc
namespace Go.Proofs.YtgfnlfjaekkdfaaGreatDoor
open Go.RowKit
set_option linter.unusedVariables false

/-- What the walk over the tasks answers. -/
def PlaRes2 (w : World) (X : Nat) (us : List Tk) (zs : List Int) (e : Ending) (w' : World) : Prop :=
  ∃ (A2 : Option Addr) (c2 : Nat) (A1 : Option Addr) (c1 : Nat), e = .returned (.slice A2 zs.length c2) ∧ OwnZ w' w.heap.size (.slice A2 zs.length c2) zs ∧ Blk w' X 23 #[.slice A1 us.length c1] ∧ Own w' w.heap.size (.slice A1 us.length c1) us ∧ Below w.heap.size w w' ∧ (∀ x, (Value.slice A1 us.length c1).ownBlock = some x → (Value.slice A2 zs.length c2).ownBlock ≠ some x)

set_option maxRecDepth 100000 in
set_option maxHeartbeats 8000000 in
theorem iPlA2_is (w wl : World) (X P : Nat) (pol : Int) (A : Option Addr) (n c : Nat) (ts : List Tk) (e0 : Addr) (h : Tks w w.heap.size A n ts) (hn : n ≤ 20)
    (hB : Below w.heap.size w wl) (hX : w.heap.size ≤ X) (bx : Blk wl X 23 #[.slice none 0 0]) (hP : w.heap.size ≤ P) (hXP : P ≠ X) (bp : Blk wl P 3 #[.int .i64 pol]) (he : EG w e0) (us : List Tk) (zr : List Int) (hr : allA ts pol n = (us, zr)) :
    Calls Tryz.prog 50 #[.slice A n c, .func (.func 51) #[] #[.pointer (some ⟨X, 0, none⟩), .pointer (some ⟨P, 0, none⟩)]] wl (PlaRes2 w X us zr) := by
  obtain ⟨i0, hi, hz0, hz1, hz2⟩ := info_parts info_int
  have H := Lib.hid h
  have HL := Lib.hid h.len
  have HB0 := Lib.hid hB
  have BX0 := Lib.hid bx
  have BP0 := Lib.hid bp
  have HE := Lib.hid he
  have HR := Lib.hid hr
  have hXl := bx.lt
  have hPl := bp.lt
  have HXL := Lib.hid hXl
  have HPL := Lib.hid hPl
  clear h hB bx bp he hr hXl hPl
  have EK := enters_of Tryz.func51 (by kernel_rfl) rfl
  go_enter Tryz.func50, Tryz.ntmps50
  go_wp2
  go_loopw [5, 10] (fun v i wr => ∃ (k : Nat) (xs : List Tk) (zs : List Int) (A1 : Option Addr) (c1 : Nat), k ≤ n ∧ i = .int .i64 k ∧ xs.length ≤ 5 ∧ zs.length ≤ k ∧ Hid (allA ts pol k = (xs, zs)) ∧ Hid (OwnZ wr w.heap.size v zs) ∧ Hid (Blk wr X 23 #[.slice A1 xs.length c1]) ∧ Hid (Blk wr P 3 #[.int .i64 pol]) ∧ Hid (Own wr w.heap.size (.slice A1 xs.length c1) xs) ∧ Hid (∀ x, (Value.slice A1 xs.length c1).ownBlock = some x → x ≠ X ∧ v.ownBlock ≠ some x) ∧ Hid (∀ x, v.ownBlock = some x → x ≠ X ∧ x ≠ P) ∧ Hid (Below w.heap.size w wr)) (fun _ i _ => n - (intOf i).toNat)
  case atStart => exact ⟨0, [], [], none, 0, Nat.zero_le _, rfl, Nat.zero_le _, Nat.zero_le _, Lib.hid rfl, Lib.hid ⟨rfl, .inl ⟨rfl, rfl⟩⟩, BX0, BP0, Lib.hid (Own.nil_ _ _), Lib.hid (fun x e => by cases e), Lib.hid (fun x e => by cases e), HB0⟩
  case round =>
    obtain ⟨k, xs, zs, A1, c1, hk, rfl, hxl, hzl, HA, HZ, HBX, HBP, HO, HNE, HZN, HB⟩ := hrel
    obtain ⟨A3, c3, rfl⟩ := HZ.out.form
    by_cases hlt : k < n
    · obtain ⟨t, ht⟩ : ∃ t, ts[k]? = some t := ⟨ts[k]'(by rw [HL.out]; exact hlt), List.getElem?_eq_getElem _⟩
      obtain ⟨bb, o, rfl, hbl, d0, d1, d2, d3, d4⟩ := (H.out.below HB.out).at_ k t ht
      have HT := Lib.hid ht
      obtain ⟨r, hr⟩ : ∃ r, admB xs t pol = r := ⟨_, rfl⟩
      obtain ⟨ys, hys⟩ : ∃ ys, ys = admL xs t pol := ⟨_, rfl⟩
      have hl5 : ys.length ≤ 5 := by rw [hys]; exact adm_len5
      have HRR := Lib.hid hr
      have HYS := Lib.hid hys
      have q1 : (0 : Int) ≤ (k : Int) := by omega
      have q2 : (k : Int) < (n : Int) := by omega
      have hsz : w.heap.size ≤ wr.heap.size := HB.out.size
      clear ht hr hys
      obtain ⟨lo, hi', du, ev, cr⟩ := t
      dsimp only at d0 d1 d2 d3 d4
      obtain ⟨W1, hW1⟩ : ∃ W1, wr.alloc (.cells #[.int .i64 lo, .int .i64 hi', .int .i64 du, .int .i64 ev, .bool cr] 25) = W1 := ⟨_, rfl⟩
      have hb1 : Below wr.heap.size wr W1 := by rw [← hW1]; exact bl_alloc (Below.refl _ _) _
      have HB1 := Lib.hid (bl_trans HB.out hb1)
      have BX1 := Lib.hid (HBX.out.below hb1 HBX.out.lt)
      have BP1 := Lib.hid (HBP.out.below hb1 HBP.out.lt)
      have HO1 := Lib.hid (HO.out.below hb1)
      have HZ1 := Lib.hid (HZ.out.below hb1)
      have HZL := Lib.hid (fun x e => (World.ownsRow.lt HZ.out x e).2)
      have bT1 : Blk W1 wr.heap.size 25 #[.int .i64 lo, .int .i64 hi', .int .i64 du, .int .i64 ev, .bool cr] := by rw [← hW1]; exact Blk.new wr _ _
      have HS1 := Lib.hid hb1.size
      have cT := bT1.cell
      clear hb1 bT1
      go_wp2_with fail
      refine (iAdC_is w W1 X P k pol A1 c1 xs ys r lo hi' du ev cr e0 HB1.out hX BX1.out BP1.out HO1.out (fun x e => (HNE.out x e).1) hxl HE.out HRR.out HYS.out).mono ?_
      rintro e w5 ⟨A5, c5, rfl, hx5, ho5, hg5, hb5, hn5⟩
      clear cT hW1
      have HB5 := Lib.hid hb5
      have HZ5 := Lib.hid (show OwnZ w5 w.heap.size (.slice A3 zs.length c3) zs from World.ownsRow.kept HZ1.out hg5 (by
        rcases he : (Value.slice A3 zs.length c3).ownBlock with _ | x
        · exact .inl rfl
        · right; intro e; have h1 := (HZN.out x he).1; injection e with e; exact h1 e))
      have BP5 := Lib.hid (BP1.out.grown hg5 (by intro e; injection e with e; first | exact hXP e | exact hXP e.symm))
      have HG5 := Lib.hid hg5.size
      have hs5 : wr.heap.size ≤ w5.heap.size := Nat.le_trans HS1.out hg5.size
      have hsw5 : w.heap.size ≤ w5.heap.size := hb5.size
      cases r
      · have HX5 : Hid (Blk w5 X 23 #[.slice A5 xs.length c5]) := hx5
        have HO5 : Hid (Own w5 w.heap.size (.slice A5 xs.length c5) xs) := ho5
        have HN5 : Hid (∀ x, (Value.slice A5 xs.length c5).ownBlock = some x → x ≠ X ∧ ((Value.slice A1 xs.length c1).ownBlock = some x ∨ W1.heap.size ≤ x)) := hn5
        have HN := Lib.hid (all_no (pol := pol) HT.out (by rw [HA.out]; exact HRR.out))
        have HOL := Lib.hid (fun x e => (World.ownsRow.lt HO5.out x e).2)
        have b1 : zs.length + 1 ≤ maxLen := by unfold maxLen; omega
        have b2 : (zs.length + 1) * 8 ≤ 140737488355328 := by omega
        clear hx5 ho5 hg5 hb5 hn5
        go_wp2_with (at_builtin; refine wpList_append_own_at _ rfl (.tmp 19) (.tmp 21) 36 rfl w.heap.size 3 i0 _ 1 8 Tryz.underlying36 hi hz0 hz1 hz2 rfl (by decide) _ zs.length (zs.map (Value.int .i64)) rfl (HZ5.out.alloc _) ⟨w5.heap.size, 0, none⟩ 1 1 [Value.int .i64 (k : Int)] rfl rfl (cell_one_a _ _ _ _ rfl) (by intro u hu; rw [List.mem_singleton.1 hu]; rfl) b1 b2 (by simp; omega) ?_; intro v' w7 hown' hgrow _ hor)
        have HZ7 := Lib.hid (show OwnZ w7 w.heap.size v' (zs ++ [(k : Int)]) from OwnZ.snoc hown')
        have HB7 := Lib.hid ((bl_alloc HB5.out _).grown hgrow (by simp; omega) (fun x e => (World.ownsRow.lt HZ5.out x e).1))
        have HX7 := Lib.hid ((HX5.out.alloc _).grown hgrow (by intro e; exact (HZN.out X e.symm).1 rfl))
        have HP7 := Lib.hid ((BP5.out.alloc _).grown hgrow (by intro e; exact (HZN.out P e.symm).2 rfl))
        have HNO : Hid (∀ x, (Value.slice A5 xs.length c5).ownBlock = some x → (Value.slice A3 zs.length c3).ownBlock = some x → False) := Lib.hid (fun x e e2 => by
          rcases (HN5.out x e).2 with h | h
          · exact (HNE.out x h).2 e2
          · have h1 := HZL.out x e2
            have h2 := HS1.out
            omega)
        have HO7 := Lib.hid (HO5.out.kept_two hgrow (fun x e e2 => HNO.out x e e2))
        have HXL5 := Lib.hid HX5.out.lt
        have HPL5 := Lib.hid BP5.out.lt
        have HZN7 : Hid (∀ x, v'.ownBlock = some x → x ≠ X ∧ x ≠ P) := Lib.hid (fun x e => by
          rcases hor with h1 | h1
          · rw [h1] at e; exact HZN.out x e
          · rw [h1] at e
            have h2 := Option.some.inj e
            have h3 := HXL5.out
            have h4 := HPL5.out
            simp at h2
            constructor <;> omega)
        have HNE7 : Hid (∀ x, (Value.slice A5 xs.length c5).ownBlock = some x → x ≠ X ∧ v'.ownBlock ≠ some x) := Lib.hid (fun x e => ⟨(HN5.out x e).1, fun e2 => by
          rcases hor with h1 | h1
          · rw [h1] at e2; exact HNO.out x e e2
          · rw [h1] at e2
            have h2 := Option.some.inj e2
            have h3 := HOL.out x e
            simp at h2
            omega⟩)
        clear hown' hgrow b1 b2 hor
        go_wp2
        go_roundw
        case rel => exact ⟨k + 1, xs, zs ++ [(k : Int)], A5, c5, by omega, by go_num, hxl, by rw [List.length_append]; show zs.length + 1 ≤ k + 1; omega, Lib.hid (by rw [HN.out, HA.out]), HZ7, HX7, HP7, HO7, HNE7, HZN7, HB7⟩
        case measure => simp [intOf]; omega
      · have HX5 : Hid (Blk w5 X 23 #[.slice A5 ys.length c5]) := hx5
        have HO5 : Hid (Own w5 w.heap.size (.slice A5 ys.length c5) ys) := ho5
        have HN5 : Hid (∀ x, (Value.slice A5 ys.length c5).ownBlock = some x → x ≠ X ∧ ((Value.slice A1 xs.length c1).ownBlock = some x ∨ W1.heap.size ≤ x)) := hn5
        have HN := Lib.hid (all_yes (pol := pol) HT.out (by rw [HA.out]; exact HRR.out))
        have HNE5 : Hid (∀ x, (Value.slice A5 ys.length c5).ownBlock = some x → x ≠ X ∧ (Value.slice A3 zs.length c3).ownBlock ≠ some x) := Lib.hid (fun x e => ⟨(HN5.out x e).1, fun e2 => by
          rcases (HN5.out x e).2 with h | h
          · exact (HNE.out x h).2 e2
          · have h1 := HZL.out x e2
            have h2 := HS1.out
            omega⟩)
        clear hx5 ho5 hg5 hb5 hn5
        go_wp2
        go_roundw
        case rel => exact ⟨k + 1, ys, zs, A5, c5, by omega, by go_num, hl5, by omega, Lib.hid (by rw [HN.out, HA.out, HYS.out]), HZ5, HX5, BP5, HO5, HNE5, HZN, HB5⟩
        case measure => simp [intOf]; omega
    · obtain rfl : k = n := by omega
      have hx := HA.out.symm.trans HR.out
      obtain ⟨rfl, rfl⟩ : xs = us ∧ zs = zr := ⟨congrArg Prod.fst hx, congrArg Prod.snd hx⟩
      clear hx
      go_wp2
      go_ret
      exact ⟨A3, c3, A1, c1, rfl, HZ.out, HBX.out, HO.out, HB.out, fun x e => (HNE.out x e).2⟩

/-- Tasks, places, and whether there are any; the two lists lie apart. -/
def AllRes2 (us : List Tk) (zs : List Int) (b : Bool) (w : World) (e : Ending) (w' : World) : Prop :=
  ∃ (A1 : Option Addr) (c1 : Nat) (A2 : Option Addr) (c2 : Nat), e = .returned (.tuple #[.slice A1 us.length c1, .slice A2 zs.length c2, .bool b]) ∧ Own w' w.heap.size (.slice A1 us.length c1) us ∧ OwnZ w' w.heap.size (.slice A2 zs.length c2) zs ∧ Below w.heap.size w w' ∧ (∀ x, (Value.slice A1 us.length c1).ownBlock = some x → (Value.slice A2 zs.length c2).ownBlock ≠ some x)
set_option maxRecDepth 100000 in
set_option maxHeartbeats 4000000 in
theorem iAll2_is (w : World) (A : Option Addr) (n c : Nat) (ts : List Tk) (pol : Int) (h : Tks w w.heap.size A n ts) (b : Bool) (hb : allB ts pol = b) (hn : n ≤ 1048576) (us : List Tk) (zr : List Int) (hu : us = if b then (allA ts pol ts.length).1 else []) (hv : zr = if b then (allA ts pol ts.length).2 else []) (e0 : Addr) (he : EG w e0) :
    Calls Tryz.prog 16 #[.slice A n c, .int .i64 pol] w (AllRes2 us zr b w) := by
  have H := Lib.hid h
  have HL := Lib.hid h.len
  have HE := Lib.hid he
  clear h he
  by_cases hp : pol = 0 ∨ pol = 1
  case neg =>
    obtain rfl : b = false := by rw [← hb]; unfold allB; rw [decide_eq_false (fun e => hp (.inl e)), decide_eq_false (fun e => hp (.inr e))]; simp
    obtain rfl : us = [] := by rw [hu]; rfl
    obtain rfl : zr = [] := by rw [hv]; rfl
    have m0 : (pol == 0) = false := by rw [beq_eq_false_iff_ne]; exact fun e => hp (.inl e)
    have m1 : (pol == 1) = false := by rw [beq_eq_false_iff_ne]; exact fun e => hp (.inr e)
    clear hb hu hv hp
    go_enter Tryz.func16, Tryz.ntmps16
    go_wp2
    go_ret3
    exact ⟨none, 0, none, 0, rfl, Own.nil_ _ _, ⟨rfl, .inl ⟨rfl, rfl⟩⟩, bl_alloc (Below.refl _ _) _, fun x e => by cases e⟩
  by_cases h20 : 20 < n
  · obtain rfl : b = false := by rw [← hb]; unfold allB; rw [decide_eq_false (by rw [HL.out]; omega)]; rfl
    obtain rfl : us = [] := by rw [hu]; rfl
    obtain rfl : zr = [] := by rw [hv]; rfl
    have k1 : (20 : Int) < (n : Int) := by omega
    clear hb hu hv
    rcases hp with rfl | rfl
    all_goals (
      go_enter Tryz.func16, Tryz.ntmps16
      go_wp2
      go_ret3
      exact ⟨none, 0, none, 0, rfl, Own.nil_ _ _, ⟨rfl, .inl ⟨rfl, rfl⟩⟩, bl_alloc (Below.refl _ _) _, fun x e => by cases e⟩)
  have k1 : ¬ (20 : Int) < (n : Int) := by omega
  have h20' : n ≤ 20 := by omega
  obtain rfl : b = true := by
    rw [← hb]; unfold allB
    rw [decide_eq_true (show ts.length ≤ 20 by rw [HL.out]; omega)]
    rcases hp with rfl | rfl <;> rfl
  have HU : Hid (allA ts pol n = (us, zr)) := by show _ = _; rw [hu, hv, if_pos rfl, if_pos rfl, HL.out]
  clear hb hu hv
  obtain ⟨W0, hW0⟩ : ∃ W0, w.alloc (.cells #[.int .i64 pol] 3) = W0 := ⟨_, rfl⟩
  obtain ⟨W2, hW2⟩ : ∃ W2, W0.alloc (.cells #[.slice none 0 0] 23) = W2 := ⟨_, rfl⟩
  have hb0 : Below w.heap.size w W0 := by rw [← hW0]; exact bl_alloc (Below.refl _ _) _
  have hs0 : W0.heap.size = w.heap.size + 1 := by rw [← hW0]; simp
  have hb2 : Below W0.heap.size W0 W2 := by rw [← hW2]; exact bl_alloc (Below.refl _ _) _
  have HB2 := Lib.hid (bl_trans hb0 hb2)
  have bp0 : Blk W0 w.heap.size 3 #[.int .i64 pol] := by rw [← hW0]; exact Blk.new w _ _
  have BP0 := Lib.hid bp0
  have BP2 := Lib.hid (bp0.below hb2 bp0.lt)
  have BX2 : Hid (Blk W2 W0.heap.size 23 #[.slice none 0 0]) := Lib.hid (by rw [← hW2]; exact Blk.new W0 _ _)
  have HS0 := Lib.hid hs0
  clear hb0 hb2 bp0 hs0
  have cP := BP0.out.cell
  rcases hp with rfl | rfl
  all_goals (
    go_enter Tryz.func16, Tryz.ntmps16
    go_wp2_with (first | (go_at_call 49; (first | refine (iPol_yes _ 0 (.inl rfl)).mono ?_ | refine (iPol_yes _ 1 (.inr rfl)).mono ?_); rintro e w' ⟨rfl, rfl⟩) | (go_at_call 50; refine (iPlA2_is w W2 W0.heap.size w.heap.size _ A n c ts e0 H.out h20' HB2.out (by have := HS0.out; omega) BX2.out (Nat.le_refl _) (by have := HS0.out; omega) BP2.out HE.out us zr HU.out).mono ?_; rintro e w5 ⟨A2, c2, A1, c1, rfl, hz5, hx5, ho5, hb5, hs5⟩; have HSP := Lib.hid hs5; clear hs5; have HZ5 := Lib.hid hz5; have HO5 := Lib.hid ho5; have HB5 := Lib.hid hb5; have cX := hx5.cell; clear hz5 ho5 hx5 hb5))
    go_ret3
    exact ⟨A1, c1, A2, c2, rfl, HO5.out, HZ5.out, HB5.out, HSP.out⟩)

end Go.Proofs.YtgfnlfjaekkdfaaGreatDoor
