/- The text of jobs, as plain data: how it is written, that it is read back. No program in this text. -/
import Derived.Test.YthdclaljgimclaaDoorJbB
import Derived.Test.YthdclaljgimclaaDoorPcs
import Derived.Lib.ItoaNum
namespace Go.Proofs.YthdclaljgimclaaDoor
open Go.RowKit
set_option linter.unusedVariables false

def valJ (l : List UInt8) : Nat := l.foldl (fun n b => n * 10 + (b.toNat - 48)) 0
/-- The numeral of a number up to 999. -/
def dec3 (n : Nat) : List UInt8 := if n < 10 then [UInt8.ofNat (48 + n)] else if n < 100 then [UInt8.ofNat (48 + n / 10), UInt8.ofNat (48 + n % 10)] else [UInt8.ofNat (48 + n / 100), UInt8.ofNat (48 + n / 10 % 10), UInt8.ofNat (48 + n % 10)]
theorem dec_3 {n : Nat} (h : n < 1000) : Lib.decDigits n = dec3 n := by
  unfold dec3
  by_cases h1 : n < 10
  · rw [Lib.decDigits_one h1, if_pos h1]
  · rw [if_neg h1]
    by_cases h2 : n < 100
    · rw [Lib.decDigits_two h1 h2, if_pos h2]
    · rw [if_neg h2, Lib.decDigits, dif_neg h1, Lib.decDigits_two (by omega) (by omega), Nat.div_div_eq_div_mul]
      rfl
def digB (b : UInt8) : Bool := decide (48 ≤ b.toNat) && decide (b.toNat ≤ 57)
theorem dec3_fin : ∀ n : Fin 201, valJ (dec3 n.val) = n.val ∧ (dec3 n.val).length ≤ 3 ∧ dec3 n.val ≠ [] ∧ (dec3 n.val).all digB = true ∧ (dec3 n.val).head? ≠ some 45 ∧ ((dec3 n.val).head? ≠ some 48 ∨ (dec3 n.val).length = 1) := by decide +kernel
/-- The numeral of a number from 0 to 200. -/
def decJ (z : Int) : List UInt8 := Lib.decDigits z.toNat
structure IsNum (l : List UInt8) (z : Int) : Prop where
  val : (valJ l : Int) = z
  len : l.length ≤ 3
  ne : l ≠ []
  dig : ∀ b ∈ l, 48 ≤ b.toNat ∧ b.toNat ≤ 57
  h45 : l.head? ≠ some 45
  h48 : l.head? ≠ some 48 ∨ l.length = 1
theorem isNum {z : Int} (h0 : 0 ≤ z) (h1 : z ≤ 200) : IsNum (decJ z) z := by
  unfold decJ
  rw [dec_3 (by omega)]
  obtain ⟨a, b, c, d, e, f⟩ := dec3_fin ⟨z.toNat, by omega⟩
  refine ⟨by simp only at a; rw [a]; omega, b, c, fun x hx => ?_, e, f⟩
  have := List.all_eq_true.1 d x hx
  simpa [digB] using this
theorem num_not {z : Int} (h0 : 0 ≤ z) (h1 : z ≤ 200) {c : UInt8} (hc : c.toNat < 48 ∨ 57 < c.toNat) : c ∉ decJ z := fun h => by
  have := (isNum h0 h1).dig c h
  omega

def textJ (j : Jb) : List UInt8 := decJ j.ta ++ 64 :: (decJ j.tm ++ 58 :: decJ j.ne)
def textJs (js : List Jb) : List UInt8 := joinC 32 (js.map textJ)
def fmtJ (js : List Jb) : List UInt8 := if wrsB js then textJs js else []
/-- A job read from its text. -/
def rdJ (l : List UInt8) : Jb :=
  match pieces 64 l with
  | [a, r] => match pieces 58 r with
    | [b, c] => ⟨valJ a, valJ b, valJ c⟩
    | _ => ⟨-1, 0, 0⟩
  | _ => ⟨-1, 0, 0⟩
def parsedJ (l : List UInt8) : List Jb := (pieces 32 l).map rdJ
def okJ (l : List UInt8) : Bool := decide (l = []) || (wrsB (parsedJ l) && decide (textJs (parsedJ l) = l))
def jsOf (l : List UInt8) : List Jb := if okJ l then (if l = [] then [] else parsedJ l) else []

theorem wr_nums {j : Jb} (h : wrB j = true) : (0 ≤ j.ta ∧ j.ta ≤ 200) ∧ (0 ≤ j.tm ∧ j.tm ≤ 200) ∧ (0 ≤ j.ne ∧ j.ne ≤ 200) := by
  have := wrB_iff.1 h; omega
theorem text_at {j : Jb} (h : wrB j = true) : pieces 64 (textJ j) = [decJ j.ta, decJ j.tm ++ 58 :: decJ j.ne] ∧ pieces 58 (decJ j.tm ++ 58 :: decJ j.ne) = [decJ j.tm, decJ j.ne] := by
  obtain ⟨⟨a1, a2⟩, ⟨b1, b2⟩, c1, c2⟩ := wr_nums h
  constructor
  · unfold textJ
    rw [pieces_hit _ (num_not a1 a2 (by decide)), pieces_miss]
    intro hh
    rcases List.mem_append.1 hh with h1 | h1
    · exact num_not b1 b2 (by decide) h1
    · rcases List.mem_cons.1 h1 with h2 | h2
      · exact absurd h2 (by decide)
      · exact num_not c1 c2 (by decide) h2
  · rw [pieces_hit _ (num_not b1 b2 (by decide)), pieces_miss (num_not c1 c2 (by decide))]
theorem rd_text {j : Jb} (h : wrB j = true) : rdJ (textJ j) = j := by
  obtain ⟨e1, e2⟩ := text_at h
  obtain ⟨⟨a1, a2⟩, ⟨b1, b2⟩, c1, c2⟩ := wr_nums h
  unfold rdJ
  rw [e1]
  simp only
  rw [e2]
  exact Jb.eq_of (isNum a1 a2).val (isNum b1 b2).val (isNum c1 c2).val
theorem text_space {j : Jb} (h : wrB j = true) : (32 : UInt8) ∉ textJ j := fun hh => by
  obtain ⟨⟨a1, a2⟩, ⟨b1, b2⟩, c1, c2⟩ := wr_nums h
  unfold textJ at hh
  rcases List.mem_append.1 hh with h1 | h1
  · exact num_not a1 a2 (by decide) h1
  · rcases List.mem_cons.1 h1 with h2 | h2
    · exact absurd h2 (by decide)
    · rcases List.mem_append.1 h2 with h3 | h3
      · exact num_not b1 b2 (by decide) h3
      · rcases List.mem_cons.1 h3 with h4 | h4
        · exact absurd h4 (by decide)
        · exact num_not c1 c2 (by decide) h4
theorem text_ne (j : Jb) : textJ j ≠ [] := by unfold textJ; simp
theorem pieces_join {c : UInt8} : ∀ {ps : List (List UInt8)}, ps ≠ [] → (∀ p ∈ ps, c ∉ p) → pieces c (joinC c ps) = ps
  | [], h, _ => absurd rfl h
  | [p], _, h => pieces_miss (h p (by simp))
  | p :: q :: r, _, h => by
    show pieces c (p ++ c :: joinC c (q :: r)) = _
    rw [pieces_hit _ (h p (by simp)), pieces_join (by simp) (fun x hx => h x (List.mem_cons_of_mem _ hx))]
theorem textJs_ne {js : List Jb} (h : js ≠ []) : textJs js ≠ [] := by
  rcases js with _ | ⟨j, _ | ⟨k, r⟩⟩
  · exact absurd rfl h
  · exact text_ne j
  · show textJ j ++ 32 :: joinC 32 _ ≠ []
    simp
theorem pieces_text {js : List Jb} (hn : js ≠ []) (h : wrsB js = true) : pieces 32 (textJs js) = js.map textJ := by
  refine pieces_join (by simpa using hn) fun p hp => ?_
  obtain ⟨j, hj, rfl⟩ := List.mem_map.1 hp
  exact text_space ((wrsB_iff.1 h).2 j hj)
theorem parsed_text {js : List Jb} (hn : js ≠ []) (h : wrsB js = true) : parsedJ (textJs js) = js := by
  unfold parsedJ
  rw [pieces_text hn h, List.map_map]
  have : ∀ l : List Jb, (∀ j ∈ l, wrB j = true) → l.map (rdJ ∘ textJ) = l := fun l => by
    induction l with
    | nil => intro _; rfl
    | cons j l ih => intro hl; rw [List.map_cons, ih fun k hk => hl k (by simp [hk])]; exact congrArg (· :: l) (rd_text (hl j (by simp)))
  exact this js (wrsB_iff.1 h).2
/-- Jobs are read back from their text. -/
theorem ok_text {js : List Jb} (h : wrsB js = true) : okJ (textJs js) = true ∧ jsOf (textJs js) = js := by
  by_cases hn : js = []
  · subst hn; exact ⟨rfl, rfl⟩
  · have e := parsed_text hn h
    have ok : okJ (textJs js) = true := by unfold okJ; rw [e, h]; simp
    refine ⟨ok, ?_⟩
    unfold jsOf
    rw [ok, if_pos rfl, if_neg (textJs_ne hn), e]
/-- A text that is read is the text of what is read. -/
theorem text_ok {l : List UInt8} (h : okJ l = true) : wrsB (jsOf l) = true ∧ textJs (jsOf l) = l := by
  unfold jsOf
  rw [h, if_pos rfl]
  split
  · rename_i e; rw [e]; exact ⟨rfl, rfl⟩
  · rename_i e
    unfold okJ at h
    simp [e] at h
    exact h
theorem js_no {l : List UInt8} (h : okJ l = false) : jsOf l = [] := by unfold jsOf; rw [h]; rfl
/-- What fits a text is what is read of it. -/
theorem ok_of {l : List UInt8} {js : List Jb} (h : wrsB js = true) (e : textJs js = l) : okJ l = true ∧ jsOf l = js := by rw [← e]; exact ok_text h
theorem text_len (j : Jb) (h : wrB j = true) : (textJ j).length ≤ 11 := by
  obtain ⟨⟨a1, a2⟩, ⟨b1, b2⟩, c1, c2⟩ := wr_nums h
  have := (isNum a1 a2).len
  have := (isNum b1 b2).len
  have := (isNum c1 c2).len
  unfold textJ
  simp
  omega
theorem joinC_snoc (c : UInt8) (p : List UInt8) : ∀ {ps : List (List UInt8)}, ps ≠ [] → joinC c (ps ++ [p]) = joinC c ps ++ c :: p
  | [], h => absurd rfl h
  | [q], _ => rfl
  | q :: r :: ps, _ => by
    show q ++ c :: joinC c ((r :: ps) ++ [p]) = (q ++ c :: joinC c (r :: ps)) ++ c :: p
    rw [joinC_snoc c p (by simp)]
    simp
theorem textJs_snoc {js : List Jb} (j : Jb) (h : js ≠ []) : textJs (js ++ [j]) = textJs js ++ 32 :: textJ j := by
  unfold textJs
  rw [List.map_append]
  exact joinC_snoc 32 _ (by simpa using h)
theorem textJs_one (j : Jb) : textJs [j] = textJ j := rfl
theorem textJs_len {js : List Jb} : (∀ j ∈ js, wrB j = true) → (textJs js).length ≤ 12 * js.length := by
  refine snoc_ind (P := fun js => (∀ j ∈ js, wrB j = true) → (textJs js).length ≤ 12 * js.length) (fun _ => Nat.le_refl _) (fun l j ih h => ?_) js
  have hj := text_len j (h j (by simp))
  have hl := ih fun k hk => h k (by simp [hk])
  by_cases hn : l = []
  · subst hn; show (textJ j).length ≤ 12 * 1; omega
  · rw [textJs_snoc j hn]; simp; omega
def colons (l : List UInt8) : Nat := l.countP fun b => b == 58
theorem colons_not {l : List UInt8} (h : (58 : UInt8) ∉ l) : colons l = 0 := by
  unfold colons
  rw [List.countP_eq_zero]
  intro b hb e
  rw [show b = 58 by simpa using e] at hb
  exact h hb
theorem colons_app (a b : List UInt8) : colons (a ++ b) = colons a + colons b := List.countP_append
theorem colons_text {j : Jb} (h : wrB j = true) : colons (textJ j) = 1 := by
  obtain ⟨⟨a1, a2⟩, ⟨b1, b2⟩, c1, c2⟩ := wr_nums h
  unfold textJ
  rw [colons_app, show (64 : UInt8) :: (decJ j.tm ++ 58 :: decJ j.ne) = [64] ++ (decJ j.tm ++ ([58] ++ decJ j.ne)) from rfl, colons_app, colons_app, colons_app, colons_not (num_not a1 a2 (by decide)), colons_not (num_not b1 b2 (by decide)), colons_not (num_not c1 c2 (by decide))]
  rfl
/-- The text of jobs has a colon for each of them. -/
theorem colons_all {js : List Jb} : (∀ j ∈ js, wrB j = true) → colons (textJs js) = js.length := by
  refine snoc_ind (P := fun js => (∀ j ∈ js, wrB j = true) → colons (textJs js) = js.length) (fun _ => rfl) (fun l j ih h => ?_) js
  have hj := colons_text (h j (by simp))
  by_cases hn : l = []
  · subst hn; exact hj
  · rw [textJs_snoc j hn, show (32 : UInt8) :: textJ j = [32] ++ textJ j from rfl, colons_app, colons_app, ih fun k hk => h k (by simp [hk]), hj, List.length_append]
    rfl

end Go.Proofs.YthdclaljgimclaaDoor
