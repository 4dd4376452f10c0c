/- What the text of a task is read as, as plain functions of lists of bytes; a text that a valid task has is read as that task. -/
import Derived.Test.YtnhffadebjibnabDoorTxt
import Derived.Test.YtnhffadebjibnabDoorSet
import Derived.Lib.IndexMore
import Derived.Lib.AtoiAll
namespace Go.Proofs.YtnhffadebjibnabDoor
open Go.RowKit

theorem index_hit (c : UInt8) (r b : List UInt8) : ∀ a : List UInt8, c ∉ a → Lib.index (a ++ ((c :: r) ++ b)) (c :: r) = a.length
  | [], _ => by
    rw [List.nil_append, List.cons_append]
    unfold Lib.index
    rw [if_pos (List.isPrefixOf_iff_prefix.2 ⟨b, by simp⟩)]
    rfl
  | x :: a, h => by
    have h1 : c ≠ x := fun e => h (by simp [e])
    have ih := index_hit c r b a (fun e => h (List.mem_cons_of_mem _ e))
    rw [List.cons_append]
    unfold Lib.index
    rw [if_neg (fun e => by
      obtain ⟨z, hz⟩ := List.isPrefixOf_iff_prefix.1 e
      rw [List.cons_append] at hz
      injection hz with hz
      exact h1 hz), ih]
    have : ((a.length : Int) == -1) = false := by rw [beq_eq_false_iff_ne]; omega
    simp [this]
theorem index_miss (c : UInt8) (r : List UInt8) : ∀ a : List UInt8, c ∉ a → Lib.index a (c :: r) = -1
  | [], _ => by unfold Lib.index; rfl
  | x :: a, h => by
    have h1 : c ≠ x := fun e => h (by simp [e])
    have ih := index_miss c r a (fun e => h (List.mem_cons_of_mem _ e))
    unfold Lib.index
    rw [if_neg (fun e => by
      obtain ⟨z, hz⟩ := List.isPrefixOf_iff_prefix.1 e
      rw [List.cons_append] at hz
      injection hz with hz
      exact h1 hz), ih]
    rfl
theorem cut_hit (c : UInt8) (r a b : List UInt8) (h : c ∉ a) : Lib.cut (a ++ ((c :: r) ++ b)) (c :: r) = (a, b, true) := by
  unfold Lib.cut
  rw [index_hit c r b a h, if_pos (by omega), Int.toNat_natCast]
  simp [List.take_left', List.drop_append]
theorem cut_miss (c : UInt8) (r a : List UInt8) (h : c ∉ a) : Lib.cut a (c :: r) = (a, [], false) := by
  unfold Lib.cut
  rw [index_miss c r a h, if_neg (by decide)]

def numI (l : List UInt8) : Int := match Lib.atoiAll l with | .ok v => v | _ => 0

def byL : List UInt8 := [32, 98, 121, 32]
/-- The task that a text is read as. -/
def readI (l : List UInt8) : Tk :=
  ⟨numI (Lib.cut (Lib.cut l everyL).1 [47]).1,
   if (Lib.cut (Lib.cut l everyL).1 [47]).2.2 then numI (Lib.cut (Lib.cut l everyL).1 [47]).2.1 else numI (Lib.cut (Lib.cut l everyL).1 [47]).1,
   if (Lib.cut (Lib.cut l everyL).2.1 byL).2.2 then numI (Lib.cut (Lib.cut l everyL).2.1 byL).2.1 else numI (Lib.cut (Lib.cut l everyL).2.1 byL).1,
   numI (Lib.cut (Lib.cut l everyL).2.1 byL).1,
   (Lib.cut (Lib.cut l everyL).1 [47]).2.2⟩

def decE (n : Nat) : List UInt8 := if n < 10 then [UInt8.ofNat (48 + n)] else [UInt8.ofNat (48 + n / 10), UInt8.ofNat (48 + n % 10)]
theorem dec_E {n : Int} (h : n < 100) : dec n = decE n.toNat := by
  unfold dec decE
  by_cases b : n.toNat < 10
  · rw [Lib.decDigits_one b, if_pos b]
  · rw [Lib.decDigits_two b (by omega), if_neg b]
theorem num_fin : ∀ n : Fin 21, numI (decE n.val) = (n.val : Int) := by decide +kernel
theorem sep_fin : ∀ n : Fin 21, (32 : UInt8) ∉ decE n.val ∧ (47 : UInt8) ∉ decE n.val := by decide +kernel
theorem num_dec {n : Int} (h0 : 0 ≤ n) (h1 : n ≤ 20) : numI (dec n) = n := by
  rw [dec_E (by omega)]
  have := num_fin ⟨n.toNat, by omega⟩
  simp at this
  rw [this]
  omega
theorem sep_dec {n : Int} (h0 : 0 ≤ n) (h1 : n ≤ 20) : (32 : UInt8) ∉ dec n ∧ (47 : UInt8) ∉ dec n := by
  rw [dec_E (by omega)]
  exact sep_fin ⟨n.toNat, by omega⟩

def Tk.text' (t : Tk) : List UInt8 := textL t.lo t.hi t.du t.ev t.cr

theorem read_text {lo hi du ev : Int} {cr : Bool} (h : validB lo hi du ev cr = true) : readI (textL lo hi du ev cr) = ⟨lo, hi, du, ev, cr⟩ := by
  obtain ⟨v1, v2, v3, v4, v5⟩ := valid_of h
  have hc : cr = false → hi = lo := fun e => by subst e; simp [validB] at h; omega
  obtain ⟨a1, a2⟩ := sep_dec (n := lo) (by omega) (by omega)
  obtain ⟨b1, b2⟩ := sep_dec (n := hi) (by omega) (by omega)
  obtain ⟨c1, c2⟩ := sep_dec (n := du) (by omega) (by omega)
  obtain ⟨d1, d2⟩ := sep_dec (n := ev) (by omega) (by omega)
  have n1 := num_dec (n := lo) (by omega) (by omega)
  have n2 := num_dec (n := hi) (by omega) (by omega)
  have n3 := num_dec (n := du) (by omega) (by omega)
  have n4 := num_dec (n := ev) (by omega) (by omega)
  have e1 : Lib.cut (textL lo hi du ev cr) everyL = (needL lo hi cr, dec ev ++ dueL du ev, true) := by
    have := cut_hit 32 [101, 118, 101, 114, 121, 32] (needL lo hi cr) (dec ev ++ dueL du ev) (by cases cr <;> simp [needL, a1, b1])
    rw [textL, if_pos h, taskL]
    simpa [everyL] using this
  have e2 : Lib.cut (needL lo hi cr) [47] = (dec lo, if cr then dec hi else [], cr) := by
    cases cr
    · exact cut_miss 47 [] (dec lo) a2
    · exact cut_hit 47 [] (dec lo) (dec hi) a2
  have e3 : Lib.cut (dec ev ++ dueL du ev) byL = (dec ev, if du = ev then [] else dec du, decide (¬ du = ev)) := by
    by_cases e : du = ev
    · rw [dueL, if_pos e, List.append_nil, if_pos e]
      simpa [byL, e] using cut_miss 32 [98, 121, 32] (dec ev) d1
    · rw [dueL, if_neg e, if_neg e]
      simpa [byL, e] using cut_hit 32 [98, 121, 32] (dec ev) (dec du) d1
  unfold readI
  rw [e1]
  dsimp only
  rw [e2, e3]
  dsimp only
  rw [n1, n4]
  have f1 : (if cr = true then numI (if cr = true then dec hi else []) else lo) = hi := by
    cases cr
    · simp [hc rfl]
    · simp [n2]
  have f2 : (if decide (¬ du = ev) = true then numI (if du = ev then [] else dec du) else ev) = du := by
    by_cases e : du = ev
    · simp [e]
    · simp [e, n3]
  rw [f1, f2]

/-- Whether a text is a task's. -/
def okR (l : List UInt8) : Bool := (readI l).ok && decide (textL (readI l).lo (readI l).hi (readI l).du (readI l).ev (readI l).cr = l)
def parsedT (l : List UInt8) : Tk := if okR l then readI l else ⟨0, 0, 0, 0, false⟩

theorem okR_text {lo hi du ev : Int} {cr : Bool} (h : validB lo hi du ev cr = true) : okR (textL lo hi du ev cr) = true ∧ parsedT (textL lo hi du ev cr) = ⟨lo, hi, du, ev, cr⟩ := by
  have hr := read_text h
  have ho : okR (textL lo hi du ev cr) = true := by
    unfold okR
    rw [hr]
    simp [Tk.ok, h]
  exact ⟨ho, by rw [parsedT, if_pos ho, hr]⟩
theorem okR_spec {l : List UInt8} (h : okR l = true) : ∃ lo hi du ev cr, validB lo hi du ev cr = true ∧ l = textL lo hi du ev cr ∧ parsedT l = ⟨lo, hi, du, ev, cr⟩ := by
  have hp : parsedT l = readI l := by rw [parsedT, if_pos h]
  unfold okR at h
  rw [Bool.and_eq_true] at h
  refine ⟨(readI l).lo, (readI l).hi, (readI l).du, (readI l).ev, (readI l).cr, h.1, (of_decide_eq_true h.2).symm, ?_⟩
  rw [hp]

end Go.Proofs.YtnhffadebjibnabDoor
