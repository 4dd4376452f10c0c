/- Contracts of the program's Job.within, Task.need and Job.isOf. Nothing that was there is written. -/
import Derived.Test.YthdclaljgimclaaDoorQOrd
import Derived.Test.YthdclaljgimclaaDoorM2
import Derived.Deep.RegionWith
namespace Go.Proofs.YthdclaljgimclaaDoor
open Go.RowKit
set_option linter.unusedVariables false

def inB (j : Jb) (n m : Int) : Bool := decide (0 ≤ j.ta) && (decide (j.ta < n) && (decide (0 ≤ j.tm) && (decide (j.tm ≤ 200) && (decide (1 ≤ j.ne) && decide (j.ne ≤ m)))))
theorem inB_iff {j : Jb} {n m : Int} : inB j n m = true ↔ 0 ≤ j.ta ∧ j.ta < n ∧ 0 ≤ j.tm ∧ j.tm ≤ 200 ∧ 1 ≤ j.ne ∧ j.ne ≤ m := by unfold inB; simp
theorem inB_wr (j : Jb) : inB j 5 20 = wrB j := rfl
theorem inB_job (ts : List Tk) (j : Jb) : inB j (ts.length : Int) (tkOf ts j.ta).hi = jobB ts j := rfl

set_option maxHeartbeats 2000000 in
theorem iWithin_is (w : World) (j : Jb) (n m : Int) (b : Bool) (hb : inB j n m = b) :
    Calls Tryd.prog 55 #[j.val, .int .i64 n, .int .i64 m] w (BRes b w) := by
  unfold Jb.val
  obtain ⟨ta, tm, ne⟩ := j
  dsimp only
  by_cases h1 : 0 ≤ ta
  rotate_left
  · obtain rfl : b = false := by rw [← hb]; exact no_of fun hx => by have := inB_iff.1 hx; dsimp only at *; omega
    have d := decide_eq_false h1
    clear hb
    go_enter Tryd.func55, Tryd.ntmps55
    go_wp2
    (try (go_quiet (fail); go_wp2))
    go_ret
    exact ⟨rfl, (by repeat (first | exact Below.refl _ _ | refine bl_drewN ?_ _ | refine Below.drew ?_ | refine bl_alloc ?_ _))⟩
  have dh1 := decide_eq_true h1
  by_cases h2 : ta < n
  rotate_left
  · obtain rfl : b = false := by rw [← hb]; exact no_of fun hx => by have := inB_iff.1 hx; dsimp only at *; omega
    have d := decide_eq_false h2
    clear hb
    go_enter Tryd.func55, Tryd.ntmps55
    go_wp2
    (try (go_quiet (fail); go_wp2))
    go_ret
    exact ⟨rfl, (by repeat (first | exact Below.refl _ _ | refine bl_drewN ?_ _ | refine Below.drew ?_ | refine bl_alloc ?_ _))⟩
  have dh2 := decide_eq_true h2
  by_cases h3 : 0 ≤ tm
  rotate_left
  · obtain rfl : b = false := by rw [← hb]; exact no_of fun hx => by have := inB_iff.1 hx; dsimp only at *; omega
    have d := decide_eq_false h3
    clear hb
    go_enter Tryd.func55, Tryd.ntmps55
    go_wp2
    (try (go_quiet (fail); go_wp2))
    go_ret
    exact ⟨rfl, (by repeat (first | exact Below.refl _ _ | refine bl_drewN ?_ _ | refine Below.drew ?_ | refine bl_alloc ?_ _))⟩
  have dh3 := decide_eq_true h3
  by_cases h4 : tm ≤ 200
  rotate_left
  · obtain rfl : b = false := by rw [← hb]; exact no_of fun hx => by have := inB_iff.1 hx; dsimp only at *; omega
    have d := decide_eq_false h4
    clear hb
    go_enter Tryd.func55, Tryd.ntmps55
    go_wp2
    (try (go_quiet (fail); go_wp2))
    go_ret
    exact ⟨rfl, (by repeat (first | exact Below.refl _ _ | refine bl_drewN ?_ _ | refine Below.drew ?_ | refine bl_alloc ?_ _))⟩
  have dh4 := decide_eq_true h4
  by_cases h5 : 1 ≤ ne
  rotate_left
  · obtain rfl : b = false := by rw [← hb]; exact no_of fun hx => by have := inB_iff.1 hx; dsimp only at *; omega
    have d := decide_eq_false h5
    clear hb
    go_enter Tryd.func55, Tryd.ntmps55
    go_wp2
    (try (go_quiet (fail); go_wp2))
    go_ret
    exact ⟨rfl, (by repeat (first | exact Below.refl _ _ | refine bl_drewN ?_ _ | refine Below.drew ?_ | refine bl_alloc ?_ _))⟩
  have dh5 := decide_eq_true h5
  by_cases h6 : ne ≤ m
  rotate_left
  · obtain rfl : b = false := by rw [← hb]; exact no_of fun hx => by have := inB_iff.1 hx; dsimp only at *; omega
    have d := decide_eq_false h6
    clear hb
    go_enter Tryd.func55, Tryd.ntmps55
    go_wp2
    (try (go_quiet (fail); go_wp2))
    go_ret
    exact ⟨rfl, (by repeat (first | exact Below.refl _ _ | refine bl_drewN ?_ _ | refine Below.drew ?_ | refine bl_alloc ?_ _))⟩
  have dh6 := decide_eq_true h6
  obtain rfl : b = true := by rw [← hb]; exact inB_iff.2 ⟨h1, h2, h3, h4, h5, h6⟩
  clear hb
  go_enter Tryd.func55, Tryd.ntmps55
  go_wp2
  (try (go_quiet (fail); go_wp2))
  go_ret
  exact ⟨rfl, (by repeat (first | exact Below.refl _ _ | refine bl_drewN ?_ _ | refine Below.drew ?_ | refine bl_alloc ?_ _))⟩

set_option maxHeartbeats 1000000 in
theorem iNeedT_is (w : World) (lo hi du ev : Int) (cr b : Bool) :
    Calls Tryd.prog 47 #[.agg #[.int .i64 lo, .int .i64 hi, .int .i64 du, .int .i64 ev, .bool cr], .bool b] w fun e w' => e = .returned (.int .i64 (if b then hi else lo)) ∧ Below w.heap.size w w' := by
  cases b <;>
  · go_enter Tryd.func47, Tryd.ntmps47
    go_wp2
    go_ret
    exact ⟨rfl, (by repeat (first | exact Below.refl _ _ | refine bl_drewN ?_ _ | refine Below.drew ?_ | refine bl_alloc ?_ _))⟩

/-- Whether a list is valid and a job is one of it. -/
def isB (ts : List Tk) (j : Jb) : Bool := setB ts && jobB ts j
end Go.Proofs.YthdclaljgimclaaDoor
