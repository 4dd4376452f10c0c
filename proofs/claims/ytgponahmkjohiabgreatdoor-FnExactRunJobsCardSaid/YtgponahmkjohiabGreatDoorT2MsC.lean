import Derived.Test.YtgponahmkjohiabGreatDoorT2MsA
namespace Go.Proofs.YtgponahmkjohiabGreatDoor
open Go.RowKit
set_option linter.unusedVariables false
set_option maxRecDepth 100000 in
set_option maxHeartbeats 2000000 in
theorem sKey_is (w : World) (A : Option Addr) (n c : Nat) (ts : List Tk) (h : Tks w w.heap.size A n ts) (hs : setB ts = true) (ta tm ne : Int) (h1 : 0 ≤ ta) (h2 : ta < ts.length) (h3 : 0 ≤ tm) (h4 : tm ≤ 200)
    (ve vt vs vk : Value) (hi : Bool) (nx : Nat) (xn xd : Int) (x0 : 0 ≤ xn) (x1 : xn ≤ 1000000000) (y0 : 0 ≤ xd) (y1 : xd ≤ 1000000000) (due : Bool) (r : Int) (hr : keyJ ts ⟨due, xn, xd⟩ hi ⟨ta, tm, ne⟩ = r) :
    Calls Tryz.prog 143 #[.slice A n c, .agg #[.int .i64 ta, .int .i64 tm, .int .i64 ne], stV ve vt vs vk hi nx xn xd] w fun e w' => e = .returned (.int .i64 r) ∧ Below w.heap.size w w' := by
  obtain ⟨p, rfl⟩ := Int.eq_ofNat_of_zero_le h1
  have hpl : p < ts.length := by omega
  obtain ⟨t, ht⟩ : ∃ t, ts[p]? = some t := ⟨ts[p], List.getElem?_eq_getElem _⟩
  have etk : tkOf ts (p : Int) = t := tkOf_get ht
  have hpn : p < n := by have := h.len; omega
  obtain ⟨bt, ot, rfl, hbt, hta⟩ := h.at_ p t ht
  have hd : 0 ≤ t.du ∧ t.du ≤ 20 := by
    have hok : t.ok = true := by
      unfold setB at hs
      simp only [Bool.and_eq_true, decide_eq_true_iff, List.all_eq_true] at hs
      exact hs.2 t (List.mem_of_getElem? ht)
    have := tk_nums hok
    omega
  obtain ⟨lo, hh, du, ev, cr⟩ := t
  dsimp only at hd
  obtain ⟨wa, hwa⟩ : ∃ wa, (w.alloc (.cells #[.int .i64 (p : Int), .int .i64 tm, .int .i64 ne] 46)).alloc (.cells #[ve, vt, vs, .bool hi, vk, .int .i64 (nx : Int), .int .i64 xn, .int .i64 xd] 92) = wa := ⟨_, rfl⟩
  obtain ⟨wb, hwb⟩ : ∃ wb, wa.alloc (.cells #[.int .i64 0, .int .i64 0, .int .i64 0, .int .i64 0, .bool false] 43) = wb := ⟨_, rfl⟩
  have hsa : wa.heap.size = w.heap.size + 1 + 1 := by rw [← hwa]; simp
  have HBLa : Below w.heap.size w wa := hwa ▸ bl_alloc (bl_alloc (Below.refl _ _) _) _
  have HBLb : Below w.heap.size w wb := hwb ▸ bl_alloc HBLa _
  have hja : Blk wa w.heap.size 46 #[.int .i64 (p : Int), .int .i64 tm, .int .i64 ne] := hwa ▸ (Blk.new w _ _).alloc _
  have hsta : Blk wa (w.heap.size + 1) 92 #[ve, vt, vs, .bool hi, vk, .int .i64 (nx : Int), .int .i64 xn, .int .i64 xd] := hwa ▸ (by simpa using Blk.new (w.alloc (.cells #[.int .i64 (p : Int), .int .i64 tm, .int .i64 ne] 46)) 92 #[ve, vt, vs, .bool hi, vk, .int .i64 (nx : Int), .int .i64 xn, .int .i64 xd])
  have hjb := hwb ▸ hja.alloc (.cells #[.int .i64 0, .int .i64 0, .int .i64 0, .int .i64 0, .bool false] 43)
  have hstb := hwb ▸ hsta.alloc (.cells #[.int .i64 0, .int .i64 0, .int .i64 0, .int .i64 0, .bool false] 43)
  have htb : Blk wb wa.heap.size 43 #[.int .i64 0, .int .i64 0, .int .i64 0, .int .i64 0, .bool false] := hwb ▸ Blk.new wa _ _
  rw [hsa] at htb
  have hjc := hjb.off5 (b := w.heap.size + 1 + 1) (v0 := .int .i64 lo) (v1 := .int .i64 hh) (v2 := .int .i64 du) (v3 := .int .i64 ev) (v4 := .bool cr) (by omega)
  have hstc := hstb.off5 (b := w.heap.size + 1 + 1) (v0 := .int .i64 lo) (v1 := .int .i64 hh) (v2 := .int .i64 du) (v3 := .int .i64 ev) (v4 := .bool cr) (by omega)
  have htc := htb.fill5 (v0 := .int .i64 lo) (v1 := .int .i64 hh) (v2 := .int .i64 du) (v3 := .int .i64 ev) (v4 := .bool cr)
  have HBLc : Hid (Below w.heap.size w (fill5 wb (w.heap.size + 1 + 1) (.int .i64 lo) (.int .i64 hh) (.int .i64 du) (.int .i64 ev) (.bool cr))) := Lib.hid (((((bl_set HBLb (by dsimp only; omega) _).setCell (by dsimp only; omega) _).setCell (by dsimp only; omega) _).setCell (by dsimp only; omega) _).setCell (by dsimp only; omega) _)
  unfold fill5 at hjc hstc htc HBLc
  obtain ⟨j0, j1, j2⟩ := hja.tri
  obtain ⟨k0, k1, k2⟩ := hjc.tri
  obtain ⟨s0, s1, s2, s3, s4, s5, s6, s7⟩ := hstc.eight
  obtain ⟨t0, t1, t2, t3, t4⟩ := htc.five
  obtain ⟨u0, u1, u2, u3, u4⟩ := htb.five
  have fu := htb.frozen
  obtain ⟨c0, c1, c2, c3, c4⟩ := hta.keep (w' := wa) (fun i => HBLa.cell (p := ⟨bt, i, none⟩) hbt)
  obtain ⟨d0, d1, d2, d3, d4⟩ := hta.keep (w' := wb) (fun i => HBLb.cell (p := ⟨bt, i, none⟩) hbt)
  have q1 : (p : Int) < (n : Int) := by omega
  have q0 : (0 : Int) ≤ (p : Int) := by omega
  clear hja hsta hjb hstb htb hjc hstc htc h hta HBLa HBLb ht
  dsimp only at c0 c1 c2 c3 c4 d0 d1 d2 d3 d4
  unfold keyJ at hr
  dsimp only at hr
  rw [etk] at hr
  dsimp only at hr
  clear etk
  unfold stV
  have m1 : 0 ≤ tm * xd ∧ tm * xd ≤ 200000000000 := ⟨Int.mul_nonneg h3 y0, by have := Int.mul_le_mul h4 y1 y0 (by omega); omega⟩
  have m2 : 0 ≤ xn * du ∧ xn * du ≤ 20000000000 := ⟨Int.mul_nonneg x0 hd.1, by have := Int.mul_le_mul x1 hd.2 hd.1 (by omega); omega⟩
  have m3 : 0 ≤ (tm + du) * xd ∧ (tm + du) * xd ≤ 220000000000 := ⟨Int.mul_nonneg (by omega) y0, by have := Int.mul_le_mul (show tm + du ≤ 220 by omega) y1 y0 (by omega); omega⟩
  have w1 : IntKind.i64.wrap (tm * xd) = tm * xd := IntWalk.i64_in _ (by omega)
  have w2 : IntKind.i64.wrap (xn * du) = xn * du := IntWalk.i64_in _ (by omega)
  have w3 : IntKind.i64.wrap ((tm + du) * xd) = (tm + du) * xd := IntWalk.i64_in _ (by omega)
  have HR := Lib.hid hr
  clear hr
  cases cr <;> cases hi
  all_goals
    go_enter Tryz.func143, Tryz.ntmps143
    go_wp2
    go_ret
    exact ⟨by rw [← HR.out]; rfl, HBLc.out⟩
set_option maxRecDepth 100000 in
set_option maxHeartbeats 2000000 in
theorem sFirst_is (w : World) (A : Option Addr) (n c : Nat) (ts : List Tk) (h : Tks w w.heap.size A n ts) (hs : setB ts = true) (a b : Jb) (h1 : 0 ≤ a.ta ∧ a.ta < ts.length ∧ 0 ≤ a.tm ∧ a.tm ≤ 200) (h2 : 0 ≤ b.ta ∧ b.ta < ts.length ∧ 0 ≤ b.tm ∧ b.tm ≤ 200)
    (ve vt vs vk : Value) (hi : Bool) (nx : Nat) (xn xd : Int) (x0 : 0 ≤ xn) (x1 : xn ≤ 1000000000) (y0 : 0 ≤ xd) (y1 : xd ≤ 1000000000) (pol : Int) (due : Bool) (hp : due = (pol == 1)) (r : Bool) (hr : firstB ts ⟨due, xn, xd⟩ hi a b = r) :
    Calls Tryz.prog 103 #[.slice A n c, .agg #[.int .i64 a.ta, .int .i64 a.tm, .int .i64 a.ne], .agg #[.int .i64 b.ta, .int .i64 b.tm, .int .i64 b.ne], .int .i64 pol, stV ve vt vs vk hi nx xn xd] w fun e w' => e = .returned (.bool r) ∧ Below w.heap.size w w' := by
  obtain ⟨wa, hwa⟩ : ∃ wa, ((w.alloc (.cells #[.int .i64 a.ta, .int .i64 a.tm, .int .i64 a.ne] 46)).alloc (.cells #[.int .i64 b.ta, .int .i64 b.tm, .int .i64 b.ne] 46)).alloc (.cells #[ve, vt, vs, .bool hi, vk, .int .i64 (nx : Int), .int .i64 xn, .int .i64 xd] 92) = wa := ⟨_, rfl⟩
  have hsa : wa.heap.size = w.heap.size + 1 + 1 + 1 := by rw [← hwa]; simp
  have HBLa : Hid (Below w.heap.size w wa) := Lib.hid (hwa ▸ bl_alloc (bl_alloc (bl_alloc (Below.refl _ _) _) _) _)
  have HA0 : Hid (Blk wa w.heap.size 46 #[.int .i64 a.ta, .int .i64 a.tm, .int .i64 a.ne]) := Lib.hid (hwa ▸ ((Blk.new w _ _).alloc _).alloc _)
  have HB0 : Hid (Blk wa (w.heap.size + 1) 46 #[.int .i64 b.ta, .int .i64 b.tm, .int .i64 b.ne]) := Lib.hid (hwa ▸ (by
    have h := Blk.new (w.alloc (.cells #[.int .i64 a.ta, .int .i64 a.tm, .int .i64 a.ne] 46)) 46 #[.int .i64 b.ta, .int .i64 b.tm, .int .i64 b.ne]
    rw [World.size_alloc] at h
    exact h.alloc _))
  have HS0 : Hid (Blk wa (w.heap.size + 1 + 1) 92 #[ve, vt, vs, .bool hi, vk, .int .i64 (nx : Int), .int .i64 xn, .int .i64 xd]) := Lib.hid (hwa ▸ (by
    have h := Blk.new ((w.alloc (.cells #[.int .i64 a.ta, .int .i64 a.tm, .int .i64 a.ne] 46)).alloc (.cells #[.int .i64 b.ta, .int .i64 b.tm, .int .i64 b.ne] 46)) 92 #[ve, vt, vs, .bool hi, vk, .int .i64 (nx : Int), .int .i64 xn, .int .i64 xd]
    rw [World.size_alloc, World.size_alloc] at h
    exact h))
  have HT := Lib.hid h
  have HR := Lib.hid hr
  unfold stV
  clear h hr
  cases due
  case false =>
    have t1 : (pol == 1) = false := hp.symm
    have HR2 : Hid (placeB a b = r) := Lib.hid HR.out
    clear hp HR hsa
    obtain ⟨a0, a1, a2⟩ := HA0.out.tri
    obtain ⟨b0, b1, b2⟩ := HB0.out.tri
    by_cases hta : a.ta = b.ta
    · have t2 : (a.ta == b.ta) = true := by simpa using hta
      have t3 : (a.ta != b.ta) = false := by simpa using hta
      have HX : Hid (decide (a.tm < b.tm) = r) := Lib.hid (by rw [← HR2.out]; unfold placeB; simp [hta])
      clear hta
      go_enter Tryz.func103, Tryz.ntmps103
      go_wp2
      go_ret
      exact ⟨by rw [← HX.out]; rfl, HBLa.out⟩
    · have t2 : (a.ta == b.ta) = false := by simpa using hta
      have t3 : (a.ta != b.ta) = true := by simpa using hta
      have HX : Hid (decide (a.ta < b.ta) = r) := Lib.hid (by rw [← HR2.out]; unfold placeB; simp [hta])
      clear hta
      go_enter Tryz.func103, Tryz.ntmps103
      go_wp2
      go_ret
      exact ⟨by rw [← HX.out]; rfl, HBLa.out⟩
  have t1 : (pol == 1) = true := hp.symm
  obtain rfl : pol = 1 := by simpa using t1
  clear hp t1
  obtain ⟨x, hx⟩ : ∃ x, keyJ ts ⟨true, xn, xd⟩ hi a = x := ⟨_, rfl⟩
  obtain ⟨y, hy⟩ : ∃ y, keyJ ts ⟨true, xn, xd⟩ hi b = y := ⟨_, rfl⟩
  have HR2 : Hid ((decide (x < y) || (decide (x = y) && placeB a b)) = r) := Lib.hid (by rw [← HR.out, ← hx, ← hy]; rfl)
  have HXK := Lib.hid hx
  have HYK := Lib.hid hy
  clear hx hy HR
  obtain ⟨a0, a1, a2⟩ := HA0.out.tri
  obtain ⟨b0, b1, b2⟩ := HB0.out.tri
  obtain ⟨s0, s1, s2, s3, s4, s5, s6, s7⟩ := HS0.out.eight
  go_enter Tryz.func103, Tryz.ntmps103
  go_wp2_with fail
  refine (sKey_is _ A n c ts ((HT.out.below HBLa.out).more (by omega)) hs a.ta a.tm a.ne h1.1 h1.2.1 h1.2.2.1 h1.2.2.2 ve vt vs vk hi nx xn xd x0 x1 y0 y1 true x HXK.out).mono ?_
  rintro e w1 ⟨rfl, hb⟩
  have hs1 : w.heap.size + 3 ≤ w1.heap.size := by have := hb.size; omega
  have HB1 := Lib.hid (bl_trans HBLa.out hb)
  have HA1 := Lib.hid (HA0.out.below hb (by omega))
  have HBB1 := Lib.hid (HB0.out.below hb (by omega))
  have HS1 := Lib.hid (HS0.out.below hb (by omega))
  clear hb a0 a1 a2 b0 b1 b2 s0 s1 s2 s3 s4 s5 s6 s7 HA0 HB0 HS0 hsa hwa
  obtain ⟨a0, a1, a2⟩ := HA1.out.tri
  obtain ⟨b0, b1, b2⟩ := HBB1.out.tri
  obtain ⟨s0, s1, s2, s3, s4, s5, s6, s7⟩ := HS1.out.eight
  go_wp2_with fail
  refine (sKey_is _ A n c ts ((HT.out.below HB1.out).more (by omega)) hs b.ta b.tm b.ne h2.1 h2.2.1 h2.2.2.1 h2.2.2.2 ve vt vs vk hi nx xn xd x0 x1 y0 y1 true y HYK.out).mono ?_
  rintro e w2 ⟨rfl, hb⟩
  have hs2 : w.heap.size + 3 ≤ w2.heap.size := by have := hb.size; omega
  have HB2 := Lib.hid (bl_trans HB1.out hb)
  have HA2 := Lib.hid (HA1.out.below hb (by omega))
  have HBB2 := Lib.hid (HBB1.out.below hb (by omega))
  clear hb a0 a1 a2 b0 b1 b2 s0 s1 s2 s3 s4 s5 s6 s7 HA1 HBB1 HS1 hs1
  obtain ⟨a0, a1, a2⟩ := HA2.out.tri
  obtain ⟨b0, b1, b2⟩ := HBB2.out.tri
  by_cases hxy : x = y
  case neg =>
    have t2 : (x == y) = false := by simpa using hxy
    have t3 : (x != y) = true := by simpa using hxy
    have HX : Hid (decide (x < y) = r) := Lib.hid (by rw [← HR2.out]; simp [hxy])
    clear hxy
    go_wp2
    go_ret
    exact ⟨by rw [← HX.out]; rfl, HB2.out⟩
  have t2 : (x == y) = true := by simpa using hxy
  have t3 : (x != y) = false := by simpa using hxy
  have HR3 : Hid (placeB a b = r) := Lib.hid (by rw [← HR2.out]; simp [hxy])
  subst hxy
  by_cases hta : a.ta = b.ta
  · have t4 : (a.ta == b.ta) = true := by simpa using hta
    have t5 : (a.ta != b.ta) = false := by simpa using hta
    have HX : Hid (decide (a.tm < b.tm) = r) := Lib.hid (by rw [← HR3.out]; unfold placeB; simp [hta])
    clear hta
    go_wp2
    go_ret
    exact ⟨by rw [← HX.out]; rfl, HB2.out⟩
  · have t4 : (a.ta == b.ta) = false := by simpa using hta
    have t5 : (a.ta != b.ta) = true := by simpa using hta
    have HX : Hid (decide (a.ta < b.ta) = r) := Lib.hid (by rw [← HR3.out]; unfold placeB; simp [hta])
    clear hta
    go_wp2
    go_ret
    exact ⟨by rw [← HX.out]; rfl, HB2.out⟩
end Go.Proofs.YtgponahmkjohiabGreatDoor
