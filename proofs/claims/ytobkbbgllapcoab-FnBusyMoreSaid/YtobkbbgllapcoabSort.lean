/- Contracts of SortDue, in the program and in the reference: both return the tasks sorted by insertion from behind, in memory of their own. -/
import Derived.Test.YtobkbbgllapcoabInsert
import Derived.Test.YtobkbbgllapcoabCrit
import Derived.Test.YtobkbbgllapcoabLawCrit
import Derived.Deep.RegionHeld3
namespace Go.Proofs.Ytobkbbgllapcoab
open Go.RowKit

/-- Whether one task goes before another one. -/
def beforeB (du ev du' ev' : Int) : Bool := if du = du' then decide (ev < ev') else decide (du < du')
def Tk.bef (t u : Tk) : Bool := beforeB t.du t.ev u.du u.ev

theorem sBefore_any (lo hi du ev : Int) (cr : Bool) (lo' hi' du' ev' : Int) (cr' : Bool) (w : World) :
    Calls Try.prog 101 #[.agg #[.int .i64 lo, .int .i64 hi, .int .i64 du, .int .i64 ev, .bool cr], .agg #[.int .i64 lo', .int .i64 hi', .int .i64 du', .int .i64 ev', .bool cr']] w fun e w' =>
      e = .returned (.bool (beforeB du ev du' ev')) ∧ Below w.heap.size w w' := by
  by_cases h : du = du'
  · subst h
    go_enter Try.func101, Try.ntmps101
    go_wp2
    go_ret
    exact ⟨by simp [beforeB], bl_alloc (bl_alloc (Below.refl _ _) _) _⟩
  · have h' : (du != du') = true := by simpa using h
    have H := Lib.hid h
    clear h
    go_enter Try.func101, Try.ntmps101
    go_wp2
    go_ret
    exact ⟨by simp [beforeB, H.out], bl_alloc (bl_alloc (Below.refl _ _) _) _⟩

/-- The place of t in a list, looked for from place p downwards. -/
def posB (t : Tk) (out : List Tk) : Nat → Nat
  | 0 => 0
  | p + 1 => match out[p]? with
    | some u => if t.bef u then posB t out p else p + 1
    | none => p + 1
theorem posB_le (t : Tk) (out : List Tk) : ∀ p, posB t out p ≤ p
  | 0 => Nat.le_refl _
  | p + 1 => by
    unfold posB
    split
    · split
      · exact Nat.le_succ_of_le (posB_le t out p)
      · exact Nat.le_refl _
    · exact Nat.le_refl _
def insB (t : Tk) (out : List Tk) : List Tk := out.take (posB t out out.length) ++ t :: out.drop (posB t out out.length)
def sortL (ts : List Tk) : List Tk := ts.foldl (fun out t => insB t out) []
def sortOf (ts : List Tk) : List Tk := if setB ts then sortL ts else []
theorem insB_len (t : Tk) (out : List Tk) : (insB t out).length = out.length + 1 := by
  have := posB_le t out out.length
  simp [insB]; omega
theorem sortL_take {ts : List Tk} {k : Nat} {t : Tk} (h : ts[k]? = some t) : sortL (ts.take (k + 1)) = insB t (sortL (ts.take k)) := by
  obtain ⟨hk, rfl⟩ := List.getElem?_eq_some_iff.1 h
  rw [List.take_succ_eq_append_getElem hk]
  simp only [sortL, List.foldl_append, List.foldl_cons, List.foldl_nil]
theorem sortL_len (ts : List Tk) : (sortL ts).length = ts.length := by
  have : ∀ (ts out : List Tk), (ts.foldl (fun out t => insB t out) out).length = out.length + ts.length := by
    intro ts
    induction ts with
    | nil => intro out; rfl
    | cons t ts ih => intro out; rw [List.foldl_cons, ih, insB_len, List.length_cons]; omega
  have := this ts []
  simpa [sortL] using this

theorem ret_slice {A : Option Addr} {a b c : Nat} (h : a = b) : Ending.returned (.slice A a c) = .returned (.slice A b c) := by rw [h]

theorem gb_of_below {a w : World} (h : Below a.heap.size a w) (row : Option Nat) : a.grownBy w row := ⟨h.os, h.tape, h.output, h.size, fun i hi _ => h.block i hi⟩

theorem posB_yes {t u : Tk} {out : List Tk} {q : Nat} (h : out[q]? = some u) (hb : t.bef u = true) : posB t out (q + 1) = posB t out q := by
  show (match out[q]? with | some u => if t.bef u then posB t out q else q + 1 | none => q + 1) = _
  rw [h]; simp [hb]
theorem posB_no {t u : Tk} {out : List Tk} {q : Nat} (h : out[q]? = some u) (hb : t.bef u = false) : posB t out (q + 1) = q + 1 := by
  show (match out[q]? with | some u => if t.bef u then posB t out q else q + 1 | none => q + 1) = _
  rw [h]; simp [hb]

end Go.Proofs.Ytobkbbgllapcoab
