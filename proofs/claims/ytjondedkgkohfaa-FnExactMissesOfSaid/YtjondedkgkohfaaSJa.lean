/- Contracts of the reference's l6Job, l6Before, l6Text and DueAt. Nothing that was there is written. -/
import Derived.Test.YtjondedkgkohfaaJb
import Derived.Deep.QuietTactic
import Derived.BigQuiet
namespace Go.Proofs.Ytjondedkgkohfaa
open Go.RowKit
set_option linter.unusedVariables false

def BRes (b : Bool) (w : World) (e : Ending) (w' : World) : Prop := e = .returned (.bool b) ∧ Below w.heap.size w w'
theorem no_of {b : Bool} (h : b = true → False) : b = false := by
  cases b
  · rfl
  · exact (h rfl).elim
theorem tk_get {ts : List Tk} {z : Int} (h0 : 0 ≤ z) (h1 : z < (ts.length : Int)) : ∃ (k : Nat) (t : Tk), z = (k : Int) ∧ k < ts.length ∧ ts[k]? = some t ∧ tkOf ts z = t := by
  have hk : z.toNat < ts.length := by omega
  refine ⟨z.toNat, ts[z.toNat], by omega, hk, List.getElem?_eq_getElem hk, ?_⟩
  unfold tkOf; simp [List.getD, List.getElem?_eq_getElem hk]

set_option maxHeartbeats 2000000 in
theorem sJob_is (w : World) (A : Option Addr) (n c : Nat) (ts : List Tk) (h : Tks w w.heap.size A n ts) (j : Jb) (b : Bool) (hb : jobB ts j = b) :
    Calls Try.prog 80 #[.slice A n c, j.val] w (BRes b w) := by
  have H := Lib.hid h
  have HL := Lib.hid h.len
  clear h
  unfold Jb.val
  obtain ⟨ta, tm, ne⟩ := j
  dsimp only
  by_cases h1 : 0 ≤ ta
  rotate_left
  · obtain rfl : b = false := by rw [← hb]; exact no_of fun hx => by have := jobB_iff.1 hx; have := HL.out; dsimp only at *; omega
    have d := decide_eq_false h1
    clear hb
    have cJ := (Blk.new w 35 #[.int .i64 ta, .int .i64 tm, .int .i64 ne]).cell
    go_enter Try.func80, Try.ntmps80
    go_wp2
    (try (go_quiet (fail); go_wp2))
    go_ret
    exact ⟨rfl, (by repeat (first | exact Below.refl _ _ | refine bl_drewN ?_ _ | refine Below.drew ?_ | refine bl_alloc ?_ _))⟩
  have dh1 := decide_eq_true h1
  by_cases h2 : ta < (n : Int)
  rotate_left
  · obtain rfl : b = false := by rw [← hb]; exact no_of fun hx => by have := jobB_iff.1 hx; have := HL.out; dsimp only at *; omega
    have d := decide_eq_false h2
    clear hb
    have cJ := (Blk.new w 35 #[.int .i64 ta, .int .i64 tm, .int .i64 ne]).cell
    go_enter Try.func80, Try.ntmps80
    go_wp2
    (try (go_quiet (fail); go_wp2))
    go_ret
    exact ⟨rfl, (by repeat (first | exact Below.refl _ _ | refine bl_drewN ?_ _ | refine Below.drew ?_ | refine bl_alloc ?_ _))⟩
  have dh2 := decide_eq_true h2
  by_cases h3 : 0 ≤ tm
  rotate_left
  · obtain rfl : b = false := by rw [← hb]; exact no_of fun hx => by have := jobB_iff.1 hx; have := HL.out; dsimp only at *; omega
    have d := decide_eq_false h3
    clear hb
    have cJ := (Blk.new w 35 #[.int .i64 ta, .int .i64 tm, .int .i64 ne]).cell
    go_enter Try.func80, Try.ntmps80
    go_wp2
    (try (go_quiet (fail); go_wp2))
    go_ret
    exact ⟨rfl, (by repeat (first | exact Below.refl _ _ | refine bl_drewN ?_ _ | refine Below.drew ?_ | refine bl_alloc ?_ _))⟩
  have dh3 := decide_eq_true h3
  by_cases h4 : tm ≤ 200
  rotate_left
  · obtain rfl : b = false := by rw [← hb]; exact no_of fun hx => by have := jobB_iff.1 hx; have := HL.out; dsimp only at *; omega
    have d := decide_eq_false h4
    clear hb
    have cJ := (Blk.new w 35 #[.int .i64 ta, .int .i64 tm, .int .i64 ne]).cell
    go_enter Try.func80, Try.ntmps80
    go_wp2
    (try (go_quiet (fail); go_wp2))
    go_ret
    exact ⟨rfl, (by repeat (first | exact Below.refl _ _ | refine bl_drewN ?_ _ | refine Below.drew ?_ | refine bl_alloc ?_ _))⟩
  have dh4 := decide_eq_true h4
  by_cases h5 : 1 ≤ ne
  rotate_left
  · obtain rfl : b = false := by rw [← hb]; exact no_of fun hx => by have := jobB_iff.1 hx; have := HL.out; dsimp only at *; omega
    have d := decide_eq_false h5
    clear hb
    have cJ := (Blk.new w 35 #[.int .i64 ta, .int .i64 tm, .int .i64 ne]).cell
    go_enter Try.func80, Try.ntmps80
    go_wp2
    (try (go_quiet (fail); go_wp2))
    go_ret
    exact ⟨rfl, (by repeat (first | exact Below.refl _ _ | refine bl_drewN ?_ _ | refine Below.drew ?_ | refine bl_alloc ?_ _))⟩
  have dh5 := decide_eq_true h5
  obtain ⟨k, t, rfl, hk, ht, htk⟩ := tk_get h1 (by rw [HL.out]; exact h2)
  obtain ⟨bb, o, rfl, hbl, c0, c1, c2, c3, c4⟩ := H.out.at_ k t ht
  have hne : bb ≠ w.heap.size := Nat.ne_of_lt hbl
  have c1a := fun o' => (World.cell?_alloc_lt w o' ⟨bb, o + k * 5 + 1, none⟩ hbl).trans c1
  have hbv : jobB ts ⟨(k : Int), tm, ne⟩ = decide (ne ≤ t.hi) := by
    unfold jobB
    dsimp only
    rw [htk, decide_eq_true h1, decide_eq_true h3, decide_eq_true h4, decide_eq_true h5, HL.out, decide_eq_true h2]
    rfl
  rw [hbv] at hb
  clear htk ht hbv
  obtain ⟨lo, hi, du, ev, cr⟩ := t
  dsimp only at c1 c1a hb
  clear c0 c2 c3 c4
  subst hb
  have cJ := (Blk.new w 35 #[.int .i64 (k : Int), .int .i64 tm, .int .i64 ne]).cell
  go_enter Try.func80, Try.ntmps80
  go_wp2
  (try (go_quiet (fail); go_wp2))
  go_ret
  exact ⟨rfl, (by repeat (first | exact Below.refl _ _ | refine bl_drewN ?_ _ | refine Below.drew ?_ | refine bl_alloc ?_ _))⟩

set_option maxHeartbeats 1000000 in
theorem sBef_is (w : World) (a j : Jb) (b : Bool) (hb : befB a j = b) :
    Calls Try.prog 81 #[a.val, j.val] w (BRes b w) := by
  unfold Jb.val
  obtain ⟨ta, tm, ne⟩ := a
  obtain ⟨sa, sm, se⟩ := j
  dsimp only
  unfold befB at hb
  dsimp only at hb
  by_cases h1 : tm < sm
  · have d1 := decide_eq_true h1
    rw [d1] at hb
    subst hb
    go_enter Try.func81, Try.ntmps81
    go_wp2
    go_ret
    exact ⟨rfl, (by repeat (first | exact Below.refl _ _ | refine bl_drewN ?_ _ | refine Below.drew ?_ | refine bl_alloc ?_ _))⟩
  · have d1 := decide_eq_false h1
    rw [d1] at hb
    by_cases h2 : tm = sm
    · have d2 : (tm == sm) = true := by simp; exact h2
      rw [decide_eq_true h2] at hb
      subst hb
      go_enter Try.func81, Try.ntmps81
      go_wp2
      go_ret
      exact ⟨by simp, (by repeat (first | exact Below.refl _ _ | refine bl_drewN ?_ _ | refine Below.drew ?_ | refine bl_alloc ?_ _))⟩
    · have d2 : (tm == sm) = false := by simp; exact h2
      rw [decide_eq_false h2] at hb
      subst hb
      go_enter Try.func81, Try.ntmps81
      go_wp2
      go_ret
      exact ⟨rfl, (by repeat (first | exact Below.refl _ _ | refine bl_drewN ?_ _ | refine Below.drew ?_ | refine bl_alloc ?_ _))⟩

/-- When a job is due, and whether it is one. -/
def DueRes (z : Int) (b : Bool) (w : World) (e : Ending) (w' : World) : Prop := e = .returned (.tuple #[.int .i64 z, .bool b]) ∧ Below w.heap.size w w'
end Go.Proofs.Ytjondedkgkohfaa
