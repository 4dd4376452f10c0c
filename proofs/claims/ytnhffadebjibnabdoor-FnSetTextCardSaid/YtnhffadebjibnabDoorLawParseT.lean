/- The walk of the law on drawn texts of tasks: FnParseTask returns true, and writes nothing that was there. -/
import Derived.Test.YtnhffadebjibnabDoorDrawStr
import Derived.Test.YtnhffadebjibnabDoorLawParse
namespace Go.Proofs.YtnhffadebjibnabDoor
open Go.RowKit

def has (c : UInt8) (l : List UInt8) : Bool := l.any fun b => b == c
theorem has_take {c b : UInt8} {l : List UInt8} {k : Nat} (h : l[k]? = some b) : has c (l.take (k + 1)) = (has c (l.take k) || b == c) := by
  obtain ⟨hk, rfl⟩ := List.getElem?_eq_some_iff.1 h
  unfold has
  rw [List.take_succ_eq_append_getElem hk, List.any_append]
  simp
theorem has_dec {c : UInt8} {n : Int} (h0 : 0 ≤ n) (h1 : n ≤ 20) (hc : c.toNat < 48 ∨ 57 < c.toNat) : has c (dec n) = false := by
  rw [dec_E (by omega)]
  have hd : ∀ m : Fin 21, ((decE m.val).all fun b => decide (48 ≤ b.toNat) && decide (b.toNat ≤ 57)) = true := by decide +kernel
  have := hd ⟨n.toNat, by omega⟩
  unfold has
  rw [List.any_eq_false]
  intro x hx e
  have h2 := List.all_eq_true.1 this x hx
  simp at e h2
  subst e
  omega
/-- A text has the letter b where the deadline is told, and a slash where the task is critical. -/
theorem text_has {lo hi du ev : Int} {cr : Bool} (h : validB lo hi du ev cr = true) : has 98 (textL lo hi du ev cr) = decide (du < ev) ∧ has 47 (textL lo hi du ev cr) = cr := by
  obtain ⟨v1, v2, v3, v4, v5⟩ := valid_of h
  have a1 := has_dec (c := 98) (n := lo) (by omega) (by omega) (.inr (by decide))
  have a2 := has_dec (c := 98) (n := hi) (by omega) (by omega) (.inr (by decide))
  have a3 := has_dec (c := 98) (n := du) (by omega) (by omega) (.inr (by decide))
  have a4 := has_dec (c := 98) (n := ev) (by omega) (by omega) (.inr (by decide))
  have b1 := has_dec (c := 47) (n := lo) (by omega) (by omega) (.inl (by decide))
  have b2 := has_dec (c := 47) (n := hi) (by omega) (by omega) (.inl (by decide))
  have b3 := has_dec (c := 47) (n := du) (by omega) (by omega) (.inl (by decide))
  have b4 := has_dec (c := 47) (n := ev) (by omega) (by omega) (.inl (by decide))
  have e1 : has 98 everyL = false := by decide
  have e2 : has 47 everyL = false := by decide
  have app : ∀ (c : UInt8) (x y : List UInt8), has c (x ++ y) = (has c x || has c y) := fun c x y => by unfold has; rw [List.any_append]
  rw [textL, if_pos h, taskL, app, app, app, app, app, app, e1, e2, a4, b4]
  have d1 : has 98 (dueL du ev) = decide (du < ev) := by
    by_cases e : du = ev
    · rw [dueL, if_pos e]; have : ¬ du < ev := by omega
      simp [has, this]
    · rw [dueL, if_neg e, app, a3]; have : du < ev := by omega
      simp [this]; decide
  have d2 : has 47 (dueL du ev) = false := by
    by_cases e : du = ev
    · rw [dueL, if_pos e]; rfl
    · rw [dueL, if_neg e, app, b3]; decide
  have n1 : has 98 (needL lo hi cr) = false := by
    cases cr
    · exact a1
    · show has 98 (dec lo ++ 47 :: dec hi) = false
      rw [app, a1]; show ((47 : UInt8) == 98 || has 98 (dec hi)) = false; rw [a2]; decide
  have n2 : has 47 (needL lo hi cr) = cr := by
    cases cr
    · exact b1
    · show has 47 (dec lo ++ 47 :: dec hi) = true
      rw [app, b1]; show ((47 : UInt8) == 47 || has 47 (dec hi)) = true; rw [b2]; decide
  rw [d1, d2, n1, n2]
  simp

theorem byte_eq {b c : UInt8} {y : Bool} (h : ((b.toNat : Int) == (c.toNat : Int)) = y) : (b == c) = y := by
  rw [← h]
  by_cases e : b = c
  · subst e; simp
  · have : ¬ (b.toNat : Int) = (c.toNat : Int) := fun hh => e (UInt8.toNat_inj.1 (by omega))
    rw [beq_eq_false_iff_ne.2 e, beq_eq_false_iff_ne.2 this]

set_option maxRecDepth 100000 in
set_option maxHeartbeats 2000000 in
theorem fnParseTask_walk (w : World) (A : Option Addr) (n c : Nat) (f : Nat → Int) (h : Code w w.heap.size A n c f) (hv : Vars w) :
    Calls Tryd.prog 6 #[.slice A n c] w (TrueP w) := by
  have H := Lib.hid h
  have HV := Lib.hid hv
  have hle := h.le
  have hmax := h.max
  unfold maxLen at hmax
  clear h hv
  by_cases hn : 1048576 < n
  · go_enter Tryd.func6, Tryd.ntmps6
    go_wp2
    go_ret
    exact ⟨rfl, Below.refl _ _⟩
  go_enter Tryd.func6, Tryd.ntmps6
  go_wp2_with fail
  refine (drawParse_any _ A n c f H.out).mono ?_
  rintro e w1 ⟨l, rfl, hl, hb⟩
  have HB1 := Lib.hid hb
  clear hb H
  obtain ⟨lo, hi, du, ev, cr, b, hp, hb, hi_, hs_⟩ := parsers l (by omega)
  have HP := Lib.hid hp
  have HO := Lib.hid hb
  have HI := Lib.hid hi_
  have HS := Lib.hid hs_
  clear hi_ hs_ hp hb
  go_wp2_with fail
  refine (HI.out _ (HV.out.below HB1.out)).mono ?_
  rintro e w2 ⟨rfl, hb⟩
  have HB2 := Lib.hid (bl_trans HB1.out hb)
  clear hb HI
  go_wp2_with fail
  refine (HS.out _).mono ?_
  rintro e w3 ⟨rfl, hb⟩
  have HB3 := Lib.hid (bl_trans (bl_alloc HB2.out _) hb)
  have s3 : w2.heap.size < w3.heap.size := by have := hb.size; simp at this; omega
  have bT := (Blk.new w2 24 #[.int .i64 lo, .int .i64 hi, .int .i64 du, .int .i64 ev, .bool cr]).below hb (by simp)
  have cT := bT.cell
  have fT := bT.frozen
  clear hb bT HS
  cases b
  · go_wp2
    go_ret
    exact ⟨rfl, bl_alloc HB3.out _⟩
  have HT : Hid (validB lo hi du ev cr = true ∧ has 98 l = decide (du < ev) ∧ has 47 l = cr) := by
    obtain ⟨lo0, hi0, du0, ev0, cr0, hv, hll, hpp⟩ := okR_spec HO.out
    have := HP.out.symm.trans hpp
    injection this with e1 e2 e3 e4 e5
    subst e1 e2 e3 e4 e5
    obtain ⟨t1, t2⟩ := text_has hv
    rw [hll]
    exact ⟨hv, t1, t2⟩
  obtain ⟨h1, h2, h3⟩ := HT.out
  have HX := Lib.hid h2
  have HY := Lib.hid h3
  clear h2 h3 HT
  go_wp2
  go_loop [8, 9, 10] (fun x y i => ∃ k : Nat, k ≤ l.length ∧ i = .int .i64 k ∧ x = .bool (has 98 (l.take k)) ∧ y = .bool (has 47 (l.take k))) (fun _ _ i => l.length - (intOf i).toNat)
  case atStart => exact ⟨0, Nat.zero_le _, rfl, rfl, rfl⟩
  case round =>
    obtain ⟨k, hk, rfl, rfl, rfl⟩ := hrel
    by_cases hlt : k < l.length
    · obtain ⟨b, hb⟩ : ∃ b, l[k]? = some b := ⟨l[k], List.getElem?_eq_getElem hlt⟩
      have hx := at_byte hb (by simp [ByteArray.size]; omega)
      have T1 := Lib.hid (has_take (c := 98) hb)
      have T2 := Lib.hid (has_take (c := 47) hb)
      clear hb
      obtain ⟨y1, hy1⟩ : ∃ y, ((b.toNat : Int) == 98) = y := ⟨_, rfl⟩
      obtain ⟨y2, hy2⟩ : ∃ y, ((b.toNat : Int) == 47) = y := ⟨_, rfl⟩
      have E1 : Hid ((b == 98) = y1) := byte_eq hy1
      have E2 : Hid ((b == 47) = y2) := byte_eq hy2
      generalize has 98 (l.take k) = u1 at T1 ⊢
      generalize has 47 (l.take k) = u2 at T2 ⊢
      cases u1 <;> cases u2
      all_goals
        go_wp2
        go_round
        case rel => exact ⟨k + 1, by omega, by go_num, by rw [T1.out, E1.out]; rfl, by rw [T2.out, E2.out]; rfl⟩
        case measure => simp [intOf]; omega
    · obtain rfl : k = l.length := by omega
      rw [List.take_length, HX.out, HY.out]
      obtain ⟨z, hz⟩ : ∃ z, decide (du < ev) = z := ⟨_, rfl⟩
      go_wp2_with (go_at_call 15; refine (iTaskValid_any _ _ _ _ _ _).mono ?_; rintro e w' ⟨rfl, rfl⟩)
      go_ret
      exact ⟨by simp, bl_alloc (bl_alloc HB3.out _) _⟩

end Go.Proofs.YtnhffadebjibnabDoor
