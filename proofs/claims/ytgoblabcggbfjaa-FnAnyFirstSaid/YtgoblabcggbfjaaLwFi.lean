/- The walk of the law FnAnyFirst. -/
import Derived.Test.YtgoblabcggbfjaaLwTw
import Derived.Test.YtgoblabcggbfjaaLwX4z
namespace Go.Proofs.Ytgoblabcggbfjaa
open Go.RowKit
set_option linter.unusedVariables false

theorem lexB_pre {x y : List Nat} : ∀ (p : List Nat), lexB x y = true → lexB (p ++ x) (p ++ y) = true
  | [], h => h
  | a :: p, h => by
    show (decide (a < a) || (a == a && lexB (p ++ x) (p ++ y))) = true
    rw [lexB_pre p h]; simp
theorem first_swap {ts : List Tk} {o : List Nat} {a b : Nat} {p : List Nat} (h : anyOf ts = some o) (ho : o = p ++ [a, b]) (hab : b < a) : (setB ts && ordB (toZ (p ++ [b, a])) ts.length) = true ∧ hBoth (putN ts (p ++ [b, a])) = false := by
  obtain ⟨h1, h2, _⟩ := any_some h
  have hp : (p ++ [b, a]).Perm (List.range ts.length) := by
    refine List.Perm.trans ?_ h2
    rw [ho]
    exact (List.Perm.refl p).append (List.Perm.swap a b [])
  refine ⟨by rw [h1, ord_perm hp]; rfl, any_first h hp ?_⟩
  rw [ho]
  refine lexB_pre p ?_
  simp [lexB, hab]
theorem two_last {o : List Nat} (h : 2 ≤ o.length) : ∃ p a b, o = p ++ [a, b] := by
  obtain ⟨q, b, rfl⟩ := snoc_of (xs := o) (by rintro rfl; simp at h)
  obtain ⟨p, a, rfl⟩ := snoc_of (xs := q) (by rintro rfl; simp at h)
  exact ⟨p, a, b, by simp⟩
theorem swap_set (p : List Nat) (a b : Nat) : (((toZ (p ++ [a, b])).set p.length (b : Int)).set (p.length + 1) (a : Int)) = toZ (p ++ [b, a]) := by
  have hl : (toZ p).length = p.length := toZ_len p
  have e : toZ (p ++ [a, b]) = toZ p ++ [(a : Int), (b : Int)] := by simp [toZ]
  have e2 : toZ (p ++ [b, a]) = toZ p ++ [(b : Int), (a : Int)] := by simp [toZ]
  rw [e, e2, List.set_append_right _ _ (by omega), hl, Nat.sub_self, List.set_append_right _ _ (by omega), hl]
  simp
theorem last_get (p : List Nat) (a b : Nat) : (toZ (p ++ [a, b]))[p.length]? = some (a : Int) ∧ (toZ (p ++ [a, b]))[p.length + 1]? = some (b : Int) := by
  have hl : (toZ p).length = p.length := toZ_len p
  have e : toZ (p ++ [a, b]) = toZ p ++ [(a : Int), (b : Int)] := by simp [toZ]
  rw [e]
  constructor
  · rw [List.getElem?_append_right (by omega), hl, Nat.sub_self]; rfl
  · rw [List.getElem?_append_right (by omega), hl, show p.length + 1 - p.length = 1 by omega]; rfl

set_option maxRecDepth 100000 in
set_option maxHeartbeats 4000000 in
theorem fnAnyFirst_walk (w : World) (A : Option Addr) (n c : Nat) (f : Nat → Int) (h : Code w w.heap.size A n c f) :
    Calls Try.prog 7 #[.slice A n c] w fun e w' => e = .returned (.bool true) ∧ Below w.heap.size w w' := by
  have H := Lib.hid h
  have hle := h.le
  have hmax := h.max
  unfold maxLen at hmax
  clear h
  by_cases hn : 1048576 < n
  · go_enter Try.func7, Try.ntmps7
    go_wp2
    go_ret
    exact ⟨rfl, Below.refl _ _⟩
  go_enter Try.func7, Try.ntmps7
  go_wp2_with fail
  refine (dDrawAnyOrder_any _ A n c f H.out).mono ?_
  rintro e w1 ⟨At, ct, ts, rfl, hl, ho, hb⟩
  have HB1 := Lib.hid hb
  have HO := Lib.hid ho
  have HT := Lib.hid ho.reads.2
  have hct := own_le ho
  clear hb ho H
  have HD1 := Lib.hid (Below.refl w1.heap.size w1)
  have hs1 := HB1.out.size
  obtain ⟨us, b, hu⟩ : ∃ us b, asgR (anyOf ts) = us ∧ (anyOf ts).isSome = b := ⟨_, _, rfl, rfl⟩
  have hul : us.length ≤ 5 := by rw [← hu.1]; exact anyOf_len ts
  have HU := Lib.hid hu
  clear hu
  go_wp2_with fail
  refine (iAny_at w1 At _ ct ts us b (tks_to HT.out HD1.out) (by omega) HU.out).mono ?_
  rintro e w2 ⟨Ao, co, rfl, ho, hb⟩
  have hs2 := hb.size
  have HB2 := Lib.hid (show Below w.heap.size w w2 from bl_trans HB1.out hb)
  have HD2 := Lib.hid (show Below w1.heap.size w1 w2 from bl_trans HD1.out hb)
  have HZo2 := Lib.hid (ho.reads)
  have HOZ2 := Lib.hid (ho)
  clear hb ho
  go_wp2_with fail
  refine (sAny_at w2 At _ ct ts us b (tks_to HT.out HD2.out) (by omega) HU.out).mono ?_
  rintro e w3 ⟨Aw, cw, rfl, ho, hb⟩
  have hs3 := hb.size
  have HB3 := Lib.hid (show Below w.heap.size w w3 from bl_trans HB2.out hb)
  have HD3 := Lib.hid (show Below w1.heap.size w1 w3 from bl_trans HD2.out hb)
  have HZo3 := Lib.hid ((HZo2.out.below hb).more hb.size)
  have HOZ3 := Lib.hid (HOZ2.out.below hb)
  have HZw3 := Lib.hid (ho.reads)
  clear hb ho
  go_wp2_with fail
  refine (dmInts_any w3 Ao Aw _ co cw us HZo3.out HZw3.out (by omega)).mono ?_
  rintro e w4 ⟨rfl, hb⟩
  have hs4 := hb.size
  have HB4 := Lib.hid (show Below w.heap.size w w4 from bl_trans HB3.out hb)
  have HD4 := Lib.hid (show Below w1.heap.size w1 w4 from bl_trans HD3.out hb)
  have HZo4 := Lib.hid ((HZo3.out.below hb).more hb.size)
  have HOZ4 := Lib.hid (HOZ3.out.below hb)
  have HZw4 := Lib.hid ((HZw3.out.below hb).more hb.size)
  clear hb
  cases b
  · go_wp2_with fail
    refine (dmInts_any w4 Ao Aw _ co cw us HZo4.out HZw4.out (by omega)).mono ?_
    rintro e w5 ⟨rfl, hb⟩
    have hs5 := hb.size
    have HB5 := Lib.hid (show Below w.heap.size w w5 from bl_trans HB4.out hb)
    have HD5 := Lib.hid (show Below w1.heap.size w1 w5 from bl_trans HD4.out hb)
    have HZo5 := Lib.hid ((HZo4.out.below hb).more hb.size)
    have HOZ5 := Lib.hid (HOZ4.out.below hb)
    have HZw5 := Lib.hid ((HZw4.out.below hb).more hb.size)
    clear hb
    go_wp2
    go_ret
    exact ⟨rfl, HB5.out⟩
  by_cases h2 : us.length < 2
  · have h2i : (us.length : Int) < 2 := by omega
    go_wp2_with fail
    refine (dmInts_any w4 Ao Aw _ co cw us HZo4.out HZw4.out (by omega)).mono ?_
    rintro e w5 ⟨rfl, hb⟩
    have hs5 := hb.size
    have HB5 := Lib.hid (show Below w.heap.size w w5 from bl_trans HB4.out hb)
    have HD5 := Lib.hid (show Below w1.heap.size w1 w5 from bl_trans HD4.out hb)
    have HZo5 := Lib.hid ((HZo4.out.below hb).more hb.size)
    have HOZ5 := Lib.hid (HOZ4.out.below hb)
    have HZw5 := Lib.hid ((HZw4.out.below hb).more hb.size)
    clear hb
    go_wp2
    go_ret
    exact ⟨rfl, HB5.out⟩
  have h2i : ¬ (us.length : Int) < 2 := by omega
  obtain ⟨o, hoo⟩ := Option.isSome_iff_exists.1 HU.out.2
  have hus : us = toZ o := by rw [← HU.out.1, hoo]; rfl
  obtain ⟨p, a, b, hpab⟩ := two_last (o := o) (by rw [hus, toZ_len] at h2; omega)
  have hlen : us.length = p.length + 2 := by rw [hus, toZ_len, hpab]; simp
  have hga : us[p.length]? = some (a : Int) := by rw [hus, hpab]; exact (last_get p a b).1
  have hgb : us[p.length + 1]? = some (b : Int) := by rw [hus, hpab]; exact (last_get p a b).2
  have HSW : Hid ((us.set p.length (b : Int)).set (p.length + 1) (a : Int) = toZ (p ++ [b, a])) := by show _ = _; rw [hus, hpab]; exact swap_set p a b
  obtain ⟨bo, oo, rfl, hbo, _⟩ := HZo4.out.at_ _ _ hga
  have ca := (HZo4.out.get hga).2
  have cb := (HZo4.out.get hgb).2
  have m2 : (us.length : Int) - 2 = ((p.length : Nat) : Int) := by omega
  have m1 : (us.length : Int) - 1 = ((p.length + 1 : Nat) : Int) := by omega
  have l2 : ((p.length : Nat) : Int) < (us.length : Int) := by omega
  have l1 : ((p.length + 1 : Nat) : Int) < (us.length : Int) := by omega
  have HGA := Lib.hid hga
  have HGB := Lib.hid hgb
  have HLEN := Lib.hid hlen
  have HPAB := Lib.hid hpab
  have HOO := Lib.hid hoo
  clear hus hpab hlen hga hgb hoo
  by_cases hab : (a : Int) < (b : Int)
  · go_wp2
    go_quiet (fail)
    go_wp2
    go_ret
    exact ⟨rfl, bl_drewN HB4.out _⟩
  have hnd : ((p ++ [a, b]).Nodup) := by
    have h := (any_some HOO.out).2.1.nodup_iff.2 (nodup_range _)
    rw [HPAB.out] at h
    exact h
  have hne : b ≠ a := by
    rintro rfl
    rw [List.nodup_append] at hnd
    simp at hnd
  have hba : b < a := by omega
  have HFS := Lib.hid (first_swap HOO.out HPAB.out hba)
  clear hnd hne
  go_wp2
  go_quiet (fail)
  obtain ⟨w5, hwd⟩ : ∃ w5, w5 = w4.drewN nq := ⟨_, rfl⟩
  have hb : Below w4.heap.size w4 w5 := by rw [hwd]; exact bl_drewN (Below.refl _ _) _
  rw [← hwd]
  clear hwd
  have hs5 := hb.size
  have HB5 := Lib.hid (show Below w.heap.size w w5 from bl_trans HB4.out hb)
  have HD5 := Lib.hid (show Below w1.heap.size w1 w5 from bl_trans HD4.out hb)
  have HZo5 := Lib.hid ((HZo4.out.below hb).more hb.size)
  have HOZ5 := Lib.hid (HOZ4.out.below hb)
  have HZw5 := Lib.hid ((HZw4.out.below hb).more hb.size)
  clear hb ca cb
  obtain ⟨i0, hi, hz0, hz1, hz2⟩ := info_parts info_int
  go_wp2_with (at_builtin; refine wpList_append_own _ rfl (.tmp 66) (.tmp 67) 25 rfl w5.heap.size 3 i0 _ 1 8 Try.underlying25 hi hz0 hz1 hz2 rfl (by decide) _ 0 [] rfl (OwnZ.empty w5) ⟨bo, oo, none⟩ us.length co (us.map (Value.int .i64)) rfl (by rw [List.length_map, Nat.mul_one]) (Zs.cells (HZo5.out.below (bl_alloc (Below.refl _ _) _))) (zs_one _) (by unfold maxLen; omega) (by omega) (by simp) ?_; intro v6 w6 hown' hgrow _; rw [Nat.zero_add] at hown'; have HOv := Lib.hid (show OwnZ w6 w5.heap.size v6 us from by unfold OwnZ; simpa using hown'); have HBv := Lib.hid (show Below w5.heap.size w5 w6 from (bl_alloc (Below.refl _ _) _).grown hgrow (by simp) (fun q e => Nat.le_of_eq (Option.some.inj e))); obtain ⟨gv, cv, rfl⟩ := ownsRow_pos hown' (by omega); have hzr : Zs w6 w6.heap.size (some ⟨gv, 0, none⟩) us.length us := HOv.out.readsN rfl; have hzo : Zs w6 w6.heap.size (some ⟨bo, oo, none⟩) us.length us := (HZo5.out.below HBv.out).more HBv.out.size; have ca := (hzo.get HGA.out).2; have cb := (hzo.get HGB.out).2; have x2 := (hzr.get HGA.out).2; have x1 := (hzr.get HGB.out).2; rw [Nat.zero_add] at x1 x2; have f2 := HOv.out.frozen p.length; have f1 := HOv.out.frozen (p.length + 1); have hbg : bo ≠ gv := (by have := HOv.out.lt.1; have := (HZo5.out.get HGA.out).1; omega); have ca2 : (w6.setCell ⟨gv, p.length, none⟩ (.int .i64 (b : Int))).cell? ⟨bo, oo + p.length, none⟩ = some (.int .i64 (a : Int)) := (World.cell?_setCell_other _ _ _ _ (fun e => by injection e with e1 e2; first | exact hbg e1 | exact hbg e1.symm)).trans ca; have x12 : (w6.setCell ⟨gv, p.length, none⟩ (.int .i64 (b : Int))).cell? ⟨gv, p.length + 1, none⟩ = some (.int .i64 (b : Int)) := (World.cell?_setCell_other _ _ _ _ (fun e => by (injection e with e1 e2; omega))).trans x1; clear hzr hzo hbg; clear hown' hgrow)
  have hb := HBv.out
  have hs6 := hb.size
  have HB6 := Lib.hid (show Below w.heap.size w w6 from bl_trans HB5.out hb)
  have HD6 := Lib.hid (show Below w1.heap.size w1 w6 from bl_trans HD5.out hb)
  have HZo6 := Lib.hid ((HZo5.out.below hb).more hb.size)
  have HOZ6 := Lib.hid (HOZ5.out.below hb)
  have HZw6 := Lib.hid ((HZw5.out.below hb).more hb.size)
  clear hb
  have hgv := HOv.out.lt
  obtain ⟨xs, hxs⟩ : ∃ xs, xs = toZ (p ++ [b, a]) := ⟨_, rfl⟩
  have HSB : Hid (Below w.heap.size w ((w6.setCell ⟨gv, p.length, none⟩ (.int .i64 (b : Int))).setCell ⟨gv, p.length + 1, none⟩ (.int .i64 (a : Int)))) := bl_set (bl_set HB6.out (by dsimp only; omega) _) (by dsimp only; omega) _
  have HSD : Hid (Below w1.heap.size w1 ((w6.setCell ⟨gv, p.length, none⟩ (.int .i64 (b : Int))).setCell ⟨gv, p.length + 1, none⟩ (.int .i64 (a : Int)))) := bl_set (bl_set HD6.out (by dsimp only; omega) _) (by dsimp only; omega) _
  have hxl : xs.length = us.length := by rw [hxs, toZ_len, HLEN.out]; simp
  have HXR : Hid (Zs ((w6.setCell ⟨gv, p.length, none⟩ (.int .i64 (b : Int))).setCell ⟨gv, p.length + 1, none⟩ (.int .i64 (a : Int))) ((w6.setCell ⟨gv, p.length, none⟩ (.int .i64 (b : Int))).setCell ⟨gv, p.length + 1, none⟩ (.int .i64 (a : Int))).heap.size (some ⟨gv, 0, none⟩) us.length xs) := by
    have h := (HOv.out.put p.length (b : Int)).put (p.length + 1) (a : Int)
    rw [HSW.out, ← hxs] at h
    exact h.readsN hxl
  obtain ⟨ys, hys⟩ : ∃ ys, ys = putN ts (xs.map Int.toNat) := ⟨_, rfl⟩
  have HYB : Hid (hBoth ys = false) := by show _ = _; rw [hys, hxs, toZ_nat]; exact HFS.out.2
  have HXV : Hid ((setB ts && ordB xs ts.length) = true) := by show _ = _; rw [hxs]; exact HFS.out.1
  have HYS : Hid (ys = if true = true then putN ts (xs.map Int.toNat) else []) := by show _ = _; rw [hys]; rfl
  have hyl : ys.length ≤ 5 := by rw [hys, put_len, List.length_map]; omega
  clear hxs hys hxl
  go_wp2_with fail
  refine (iPutOrder_is _ At _ ct ts (some ⟨gv, 0, none⟩) us.length cv xs (tks_to HT.out HSD.out) (by omega) HXR.out ys true HXV.out HYS.out).mono ?_
  rintro e w7 ⟨Ay, cy, rfl, ho, hb⟩
  have HBA := Lib.hid (bl_trans HSB.out hb)
  have HOY := Lib.hid ho
  clear hb ho
  go_wp2_with fail
  refine (iHBoth_is w7 Ay _ cy ys HOY.out.reads.2 (by omega) (own_le HOY.out) false HYB.out).mono ?_
  rintro e w8 ⟨rfl, hb⟩
  have HBB := Lib.hid (bl_trans HBA.out hb)
  clear hb
  go_wp2
  go_ret
  exact ⟨rfl, HBB.out⟩

end Go.Proofs.Ytgoblabcggbfjaa
