/- Contract of the reference's AdmitAll: a list of tasks of the call's own, whatever it holds. Nothing that was there is written. -/
import Derived.Test.YtgfnlfjaekkdfaaDoorSAd
import Derived.Test.YtgfnlfjaekkdfaaDoorNA
import Derived.Test.YtgfnlfjaekkdfaaDoorNB
import Derived.Maps.AppendAt
namespace Go.Proofs.YtgfnlfjaekkdfaaDoor
open Go.RowKit
set_option linter.unusedVariables false

/-- The tasks that are admitted, and the places of those that are refused, among the first k. -/
def allA (us : List Tk) (pol : Int) : Nat → List Tk × List Int
  | 0 => ([], [])
  | k + 1 =>
    match us[k]? with
    | some t => if admB (allA us pol k).1 t pol then (admL (allA us pol k).1 t pol, (allA us pol k).2) else ((allA us pol k).1, (allA us pol k).2 ++ [(k : Int)])
    | none => allA us pol k
def allB (us : List Tk) (pol : Int) : Bool := decide (us.length ≤ 20) && (decide (pol = 0) || decide (pol = 1))
theorem all_yes {us : List Tk} {pol : Int} {k : Nat} {t : Tk} (ht : us[k]? = some t) (h : admB (allA us pol k).1 t pol = true) : allA us pol (k + 1) = (admL (allA us pol k).1 t pol, (allA us pol k).2) := by
  show (match us[k]? with | some t => _ | none => _) = _
  rw [ht]
  show (if _ then _ else _) = _
  rw [if_pos h]
theorem all_no {us : List Tk} {pol : Int} {k : Nat} {t : Tk} (ht : us[k]? = some t) (h : admB (allA us pol k).1 t pol = false) : allA us pol (k + 1) = ((allA us pol k).1, (allA us pol k).2 ++ [(k : Int)]) := by
  show (match us[k]? with | some t => _ | none => _) = _
  rw [ht]
  show (if _ then _ else _) = _
  rw [if_neg (by rw [h]; decide)]
theorem all_len (us : List Tk) (pol : Int) : ∀ k, k ≤ us.length → (allA us pol k).1.length ≤ 5 ∧ (allA us pol k).2.length ≤ k
  | 0, _ => ⟨Nat.zero_le _, Nat.zero_le _⟩
  | k + 1, hk => by
    obtain ⟨t, ht⟩ : ∃ t, us[k]? = some t := ⟨_, List.getElem?_eq_getElem (by omega)⟩
    obtain ⟨h1, h2⟩ := all_len us pol k (by omega)
    cases h : admB (allA us pol k).1 t pol
    · rw [all_no ht h]
      refine ⟨h1, ?_⟩
      rw [List.length_append]
      exact Nat.succ_le_succ h2
    · rw [all_yes ht h]
      exact ⟨adm_len5, by dsimp only; omega⟩
theorem cell_one_a (w : World) (z : Int) (ty : TypeId) (g : Nat) (hg : g = w.heap.size) : ∀ j u, ([Value.int .i64 z])[j]? = some u → (w.alloc (.cells #[.int .i64 z] ty)).cell? ((⟨g, 0, none⟩ : Addr).add j) = some u := by
  subst hg
  intro j u hj
  have ea : (⟨w.heap.size, 0, none⟩ : Addr).add j = ⟨w.heap.size, j, none⟩ := by unfold Addr.add; split <;> simp_all
  rw [ea, (Blk.new w ty _).cell j, ← hj]
  simp
theorem own_e2 (w : World) : Own ((w.alloc (.cells #[] 3)).alloc (.cells #[] 29)) w.heap.size (.slice (some ⟨w.heap.size + 1, 0, none⟩) 0 0) [] := by
  have h := Own.empty (w.alloc (.cells #[] 3))
  simp only [World.size_alloc] at h
  exact own_more h (Nat.le_succ _)
theorem Own.kept_two {w w' : World} {B : Nat} {v u : Value} {o : Obj} {ts : List Tk} (h : Own w B v ts) (hg : (w.alloc o).grownBy w' u.ownBlock) (hv : ∀ k, v.ownBlock = some k → u.ownBlock = some k → False) : Own w' B v ts := by
  refine World.ownsRow.kept (h.alloc o) hg ?_
  rcases he : v.ownBlock with _ | k
  · exact .inl rfl
  · right
    intro e
    exact hv k he e.symm
/-- Tasks, places, and whether there are any. -/
def AllRes (us : List Tk) (zs : List Int) (b : Bool) (w : World) (e : Ending) (w' : World) : Prop :=
  ∃ (A : Option Addr) (c : Nat) (A2 : Option Addr) (c2 : Nat), e = .returned (.tuple #[.slice A us.length c, .slice A2 zs.length c2, .bool b]) ∧ Own w' w.heap.size (.slice A us.length c) us ∧ OwnZ w' w.heap.size (.slice A2 zs.length c2) zs ∧ Below w.heap.size w w'

set_option maxRecDepth 100000 in
set_option maxHeartbeats 4000000 in
theorem sAll_is (w : World) (A : Option Addr) (n c : Nat) (ts : List Tk) (pol : Int) (h : Tks w w.heap.size A n ts) (b : Bool) (hb : allB ts pol = b) (hn : n ≤ 1048576) (us : List Tk) (zr : List Int) (hu : us = if b then (allA ts pol ts.length).1 else []) (hv : zr = if b then (allA ts pol ts.length).2 else []) :
    Calls Tryd.prog 28 #[.slice A n c, .int .i64 pol] w (AllRes us zr b w) := by
  obtain ⟨i0, hi, hz0, hz1, hz2⟩ := info_parts info_int
  have H := Lib.hid h
  have HL := Lib.hid h.len
  clear h
  by_cases h20 : 20 < n
  · obtain rfl : b = false := by rw [← hb]; unfold allB; rw [decide_eq_false (by rw [HL.out]; omega)]; rfl
    obtain rfl : us = [] := by rw [hu]; rfl
    obtain rfl : zr = [] := by rw [hv]; rfl
    have k1 : (20 : Int) < (n : Int) := by omega
    clear hb hu hv
    go_enter Tryd.func28, Tryd.ntmps28
    go_wp2
    go_ret3
    exact ⟨_, _, _, _, rfl, own_e2 w, (OwnZ.empty _).alloc _, bl_alloc (bl_alloc (Below.refl _ _) _) _⟩
  have k1 : ¬ (20 : Int) < (n : Int) := by omega
  by_cases hp0 : pol = 0
  case neg =>
    by_cases hp1 : pol = 1
    case neg =>
      obtain rfl : b = false := by rw [← hb]; unfold allB; rw [decide_eq_false hp0, decide_eq_false hp1]; simp
      obtain rfl : us = [] := by rw [hu]; rfl
      obtain rfl : zr = [] := by rw [hv]; rfl
      have m0 : (pol != 0) = true := by simpa using hp0
      have m1 : (pol != 1) = true := by simpa using hp1
      clear hb hu hv
      go_enter Tryd.func28, Tryd.ntmps28
      go_wp2
      go_ret3
      exact ⟨_, _, _, _, rfl, own_e2 w, (OwnZ.empty _).alloc _, bl_alloc (bl_alloc (Below.refl _ _) _) _⟩
    case pos =>
      subst hp1
      obtain rfl : b = true := by rw [← hb]; unfold allB; rw [decide_eq_true (show ts.length ≤ 20 by rw [HL.out]; omega)]; rfl
      have HU : Hid (us = (allA ts 1 ts.length).1) := by show _ = _; rw [hu]; rfl
      have HVV : Hid (zr = (allA ts 1 ts.length).2) := by show _ = _; rw [hv]; rfl
      clear hb hp0 hu hv
      go_enter Tryd.func28, Tryd.ntmps28
      go_wp2
      go_loopw [7, 8, 9] (fun u v i wr => ∃ (k : Nat) (xs : List Tk) (zs : List Int), k ≤ n ∧ i = .int .i64 k ∧ xs.length ≤ 5 ∧ zs.length ≤ k ∧ Hid (allA ts 1 k = (xs, zs)) ∧ OwnZ wr w.heap.size u zs ∧ Own wr w.heap.size v xs ∧ Hid (∀ x, v.ownBlock = some x → u.ownBlock = some x → False) ∧ Below w.heap.size w wr) (fun _ _ i _ => n - (intOf i).toNat)
      case atStart => exact ⟨0, [], [], Nat.zero_le _, rfl, Nat.zero_le _, Nat.zero_le _, Lib.hid rfl, (OwnZ.empty _).alloc _, own_e2 w, Lib.hid (fun x e e2 => by have h1 : w.heap.size + 1 = x := Option.some.inj e; have h2 : w.heap.size = x := Option.some.inj e2; omega), bl_alloc (bl_alloc (Below.refl _ _) _) _⟩
      case round =>
        obtain ⟨k, xs, zs, hk, rfl, hxl, hzl, HA, hoz, ho, HNE, hb⟩ := hrel
        obtain ⟨Ao, co, rfl⟩ := ho.form
        obtain ⟨Az, cz, rfl⟩ := hoz.form
        have HO := Lib.hid ho
        have HZ := Lib.hid hoz
        have HB := Lib.hid hb
        clear ho hoz hb
        by_cases hlt : k < n
        · obtain ⟨t, ht⟩ : ∃ t, ts[k]? = some t := ⟨ts[k]'(by rw [HL.out]; exact hlt), List.getElem?_eq_getElem _⟩
          obtain ⟨bb, o, rfl, hbl, c0, c1, c2, c3, c4⟩ := (H.out.below HB.out).at_ k t ht
          have HT := Lib.hid ht
          have hAL := all_len ts 1 (k + 1) (by rw [HL.out]; omega)
          have q1 : (0 : Int) ≤ (k : Int) := by omega
          have q2 : (k : Int) < (n : Int) := by omega
          have hsz : w.heap.size ≤ wr.heap.size := HB.out.size
          obtain ⟨r, hr⟩ : ∃ r, admB xs t 1 = r := ⟨_, rfl⟩
          have HR := Lib.hid hr
          have hl5 : (admL xs t 1).length ≤ 5 := adm_len5
          obtain ⟨ys, hys⟩ : ∃ ys, ys = admL xs t 1 := ⟨_, rfl⟩
          have HYS := Lib.hid hys
          rw [← hys] at hl5
          clear ht hr hys hAL
          go_wp2_with fail
          refine (sAdmit_is wr Ao _ co xs t 1 ys r HO.out.reads.2 (by omega) HR.out HYS.out).mono ?_
          rintro e w5 ⟨A5, c5, rfl, ho5, hb5⟩
          have HB5 := Lib.hid (bl_trans HB.out hb5)
          have HO5 := Lib.hid (own_more ho5 hsz)
          have HX5 := Lib.hid (HO.out.below hb5)
          have HZ5 := Lib.hid (HZ.out.below hb5)
          have HZL := Lib.hid (fun x e => (World.ownsRow.lt HZ.out x e).2)
          have HOG := Lib.hid (fun x e => (World.ownsRow.lt ho5 x e).1)
          have HXL := Lib.hid (fun x e => (World.ownsRow.lt HX5.out x e).2)
          have hsz5 : w.heap.size ≤ w5.heap.size := HB5.out.size
          clear ho5 hb5
          cases r
          · have HN := Lib.hid (all_no (pol := 1) HT.out (by rw [HA.out]; exact HR.out))
            have b1 : zs.length + 1 ≤ maxLen := by unfold maxLen; omega
            have b2 : (zs.length + 1) * 8 ≤ 140737488355328 := by omega
            go_wp2_with (at_builtin; refine wpList_append_own_at _ rfl (.tmp 45) (.tmp 47) 39 rfl w.heap.size 3 i0 _ 1 8 Tryd.underlying39 hi hz0 hz1 hz2 rfl (by decide) _ zs.length (zs.map (Value.int .i64)) rfl (HZ5.out.alloc _) ⟨w5.heap.size, 0, none⟩ 1 1 [Value.int .i64 (k : Int)] rfl rfl (cell_one_a _ _ _ _ rfl) (by intro u hu; rw [List.mem_singleton.1 hu]; rfl) b1 b2 (by simp; omega) ?_; intro v' w7 hown' hgrow _ hor)
            have HZ7 := Lib.hid (show OwnZ w7 w.heap.size v' (zs ++ [(k : Int)]) from OwnZ.snoc hown')
            have HB7 := Lib.hid ((bl_alloc HB5.out _).grown hgrow (by simp; omega) (fun x e => (World.ownsRow.lt HZ5.out x e).1))
            have HX7 := Lib.hid (HX5.out.kept_two hgrow (fun x e e2 => HNE.out x e e2))
            have HNE7 : Hid (∀ x, (Value.slice Ao xs.length co).ownBlock = some x → v'.ownBlock = some x → False) := Lib.hid (fun x e e2 => by
              rcases hor with h1 | h1
              · rw [h1] at e2; exact HNE.out x e e2
              · rw [h1] at e2
                have h2 := Option.some.inj e2
                have h3 := HXL.out x e
                simp at h2
                omega)
            clear hown' hgrow b1 b2 hor
            go_wp2
            go_roundw
            case rel => exact ⟨k + 1, xs, zs ++ [(k : Int)], by omega, by go_num, hxl, by rw [List.length_append]; show zs.length + 1 ≤ k + 1; omega, Lib.hid (by rw [HN.out, HA.out]), HZ7.out, HX7.out, HNE7, HB7.out⟩
            case measure => simp [intOf]; omega
          · have HN := Lib.hid (all_yes (pol := 1) HT.out (by rw [HA.out]; exact HR.out))
            go_wp2
            go_roundw
            case rel => exact ⟨k + 1, ys, zs, by omega, by go_num, hl5, by omega, Lib.hid (by rw [HN.out, HA.out, HYS.out]), HZ5.out, HO5.out, Lib.hid (fun x e e2 => by have h1 := HOG.out x e; have h2 := HZL.out x e2; omega), HB5.out⟩
            case measure => simp [intOf]; omega
        · obtain rfl : k = n := by omega
          have hx : (allA ts 1 ts.length).1 = xs ∧ (allA ts 1 ts.length).2 = zs := by rw [HL.out, HA.out]; exact ⟨rfl, rfl⟩
          go_wp2
          go_ret3
          obtain rfl : us = xs := by rw [HU.out]; exact hx.1
          obtain rfl : zr = zs := by rw [HVV.out]; exact hx.2
          exact ⟨Ao, co, Az, cz, rfl, HO.out, HZ.out, HB.out⟩
  case pos =>
    subst hp0
    obtain rfl : b = true := by rw [← hb]; unfold allB; rw [decide_eq_true (show ts.length ≤ 20 by rw [HL.out]; omega)]; rfl
    have HU : Hid (us = (allA ts 0 ts.length).1) := by show _ = _; rw [hu]; rfl
    have HVV : Hid (zr = (allA ts 0 ts.length).2) := by show _ = _; rw [hv]; rfl
    clear hb hu hv
    go_enter Tryd.func28, Tryd.ntmps28
    go_wp2
    go_loopw [7, 8, 9] (fun u v i wr => ∃ (k : Nat) (xs : List Tk) (zs : List Int), k ≤ n ∧ i = .int .i64 k ∧ xs.length ≤ 5 ∧ zs.length ≤ k ∧ Hid (allA ts 0 k = (xs, zs)) ∧ OwnZ wr w.heap.size u zs ∧ Own wr w.heap.size v xs ∧ Hid (∀ x, v.ownBlock = some x → u.ownBlock = some x → False) ∧ Below w.heap.size w wr) (fun _ _ i _ => n - (intOf i).toNat)
    case atStart => exact ⟨0, [], [], Nat.zero_le _, rfl, Nat.zero_le _, Nat.zero_le _, Lib.hid rfl, (OwnZ.empty _).alloc _, own_e2 w, Lib.hid (fun x e e2 => by have h1 : w.heap.size + 1 = x := Option.some.inj e; have h2 : w.heap.size = x := Option.some.inj e2; omega), bl_alloc (bl_alloc (Below.refl _ _) _) _⟩
    case round =>
      obtain ⟨k, xs, zs, hk, rfl, hxl, hzl, HA, hoz, ho, HNE, hb⟩ := hrel
      obtain ⟨Ao, co, rfl⟩ := ho.form
      obtain ⟨Az, cz, rfl⟩ := hoz.form
      have HO := Lib.hid ho
      have HZ := Lib.hid hoz
      have HB := Lib.hid hb
      clear ho hoz hb
      by_cases hlt : k < n
      · obtain ⟨t, ht⟩ : ∃ t, ts[k]? = some t := ⟨ts[k]'(by rw [HL.out]; exact hlt), List.getElem?_eq_getElem _⟩
        obtain ⟨bb, o, rfl, hbl, c0, c1, c2, c3, c4⟩ := (H.out.below HB.out).at_ k t ht
        have HT := Lib.hid ht
        have hAL := all_len ts 0 (k + 1) (by rw [HL.out]; omega)
        have q1 : (0 : Int) ≤ (k : Int) := by omega
        have q2 : (k : Int) < (n : Int) := by omega
        have hsz : w.heap.size ≤ wr.heap.size := HB.out.size
        obtain ⟨r, hr⟩ : ∃ r, admB xs t 0 = r := ⟨_, rfl⟩
        have HR := Lib.hid hr
        have hl5 : (admL xs t 0).length ≤ 5 := adm_len5
        obtain ⟨ys, hys⟩ : ∃ ys, ys = admL xs t 0 := ⟨_, rfl⟩
        have HYS := Lib.hid hys
        rw [← hys] at hl5
        clear ht hr hys hAL
        go_wp2_with fail
        refine (sAdmit_is wr Ao _ co xs t 0 ys r HO.out.reads.2 (by omega) HR.out HYS.out).mono ?_
        rintro e w5 ⟨A5, c5, rfl, ho5, hb5⟩
        have HB5 := Lib.hid (bl_trans HB.out hb5)
        have HO5 := Lib.hid (own_more ho5 hsz)
        have HX5 := Lib.hid (HO.out.below hb5)
        have HZ5 := Lib.hid (HZ.out.below hb5)
        have HZL := Lib.hid (fun x e => (World.ownsRow.lt HZ.out x e).2)
        have HOG := Lib.hid (fun x e => (World.ownsRow.lt ho5 x e).1)
        have HXL := Lib.hid (fun x e => (World.ownsRow.lt HX5.out x e).2)
        have hsz5 : w.heap.size ≤ w5.heap.size := HB5.out.size
        clear ho5 hb5
        cases r
        · have HN := Lib.hid (all_no (pol := 0) HT.out (by rw [HA.out]; exact HR.out))
          have b1 : zs.length + 1 ≤ maxLen := by unfold maxLen; omega
          have b2 : (zs.length + 1) * 8 ≤ 140737488355328 := by omega
          go_wp2_with (at_builtin; refine wpList_append_own_at _ rfl (.tmp 45) (.tmp 47) 39 rfl w.heap.size 3 i0 _ 1 8 Tryd.underlying39 hi hz0 hz1 hz2 rfl (by decide) _ zs.length (zs.map (Value.int .i64)) rfl (HZ5.out.alloc _) ⟨w5.heap.size, 0, none⟩ 1 1 [Value.int .i64 (k : Int)] rfl rfl (cell_one_a _ _ _ _ rfl) (by intro u hu; rw [List.mem_singleton.1 hu]; rfl) b1 b2 (by simp; omega) ?_; intro v' w7 hown' hgrow _ hor)
          have HZ7 := Lib.hid (show OwnZ w7 w.heap.size v' (zs ++ [(k : Int)]) from OwnZ.snoc hown')
          have HB7 := Lib.hid ((bl_alloc HB5.out _).grown hgrow (by simp; omega) (fun x e => (World.ownsRow.lt HZ5.out x e).1))
          have HX7 := Lib.hid (HX5.out.kept_two hgrow (fun x e e2 => HNE.out x e e2))
          have HNE7 : Hid (∀ x, (Value.slice Ao xs.length co).ownBlock = some x → v'.ownBlock = some x → False) := Lib.hid (fun x e e2 => by
            rcases hor with h1 | h1
            · rw [h1] at e2; exact HNE.out x e e2
            · rw [h1] at e2
              have h2 := Option.some.inj e2
              have h3 := HXL.out x e
              simp at h2
              omega)
          clear hown' hgrow b1 b2 hor
          go_wp2
          go_roundw
          case rel => exact ⟨k + 1, xs, zs ++ [(k : Int)], by omega, by go_num, hxl, by rw [List.length_append]; show zs.length + 1 ≤ k + 1; omega, Lib.hid (by rw [HN.out, HA.out]), HZ7.out, HX7.out, HNE7, HB7.out⟩
          case measure => simp [intOf]; omega
        · have HN := Lib.hid (all_yes (pol := 0) HT.out (by rw [HA.out]; exact HR.out))
          go_wp2
          go_roundw
          case rel => exact ⟨k + 1, ys, zs, by omega, by go_num, hl5, by omega, Lib.hid (by rw [HN.out, HA.out, HYS.out]), HZ5.out, HO5.out, Lib.hid (fun x e e2 => by have h1 := HOG.out x e; have h2 := HZL.out x e2; omega), HB5.out⟩
          case measure => simp [intOf]; omega
      · obtain rfl : k = n := by omega
        have hx : (allA ts 0 ts.length).1 = xs ∧ (allA ts 0 ts.length).2 = zs := by rw [HL.out, HA.out]; exact ⟨rfl, rfl⟩
        go_wp2
        go_ret3
        obtain rfl : us = xs := by rw [HU.out]; exact hx.1
        obtain rfl : zr = zs := by rw [HVV.out]; exact hx.2
        exact ⟨Ao, co, Az, cz, rfl, HO.out, HZ.out, HB.out⟩

end Go.Proofs.YtgfnlfjaekkdfaaDoor
