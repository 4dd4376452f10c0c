/- What the text of a set is read as, as plain functions of lists of bytes: cut at the mark, or at each semicolon, the same sets are read. -/
import Derived.Test.YtnhffadebjibnabDoorSetFmt
import Derived.Test.YtnhffadebjibnabDoorLawParts
import Derived.Test.YtnhffadebjibnabDoorLawParseT
import Derived.Lib.Split
namespace Go.Proofs.YtnhffadebjibnabDoor
open Go.RowKit

theorem text_semi {lo hi du ev : Int} {cr : Bool} : has 59 (textL lo hi du ev cr) = false := by
  cases h : validB lo hi du ev cr
  · rw [textL_nil h]; rfl
  obtain ⟨v1, v2, v3, v4, v5⟩ := valid_of h
  have a1 := has_dec (c := 59) (n := lo) (by omega) (by omega) (.inr (by decide))
  have a2 := has_dec (c := 59) (n := hi) (by omega) (by omega) (.inr (by decide))
  have a3 := has_dec (c := 59) (n := du) (by omega) (by omega) (.inr (by decide))
  have a4 := has_dec (c := 59) (n := ev) (by omega) (by omega) (.inr (by decide))
  have app : ∀ (c : UInt8) (x y : List UInt8), has c (x ++ y) = (has c x || has c y) := fun c x y => by unfold has; rw [List.any_append]
  rw [textL, if_pos h, taskL, app, app, app, a4]
  have d1 : has 59 (dueL du ev) = false := by
    by_cases e : du = ev
    · rw [dueL, if_pos e]; rfl
    · rw [dueL, if_neg e, app, a3]; decide
  have n1 : has 59 (needL lo hi cr) = false := by
    cases cr
    · exact a1
    · show has 59 (dec lo ++ 47 :: dec hi) = false
      rw [app, a1]; show ((47 : UInt8) == 59 || has 59 (dec hi)) = false; rw [a2]; decide
  rw [d1, n1]
  decide
theorem not_mem_of_has {c : UInt8} {l : List UInt8} (h : has c l = false) : c ∉ l := fun hm => by
  unfold has at h
  rw [List.any_eq_false] at h
  exact h c hm (by simp)
theorem okR_semi {p : List UInt8} (h : okR p = true) : (59 : UInt8) ∉ p := by
  obtain ⟨lo, hi, du, ev, cr, hv, rfl, _⟩ := okR_spec h
  exact not_mem_of_has text_semi
theorem okR_task {p : List UInt8} (h : okR p = true) : (parsedT p).ok = true ∧ (parsedT p).text = p := by
  obtain ⟨lo, hi, du, ev, cr, hv, hl, hp⟩ := okR_spec h
  rw [hp]
  exact ⟨hv, hl.symm⟩
theorem task_okR {t : Tk} (h : t.ok = true) : okR t.text = true ∧ parsedT t.text = t := okR_text h

theorem split_join : ∀ (k : Nat) (ps : List (List UInt8)), ps ≠ [] → ps.length ≤ k + 1 → (∀ p ∈ ps, (59 : UInt8) ∉ p) → Lib.splitK semi 0 k (Lib.join ps semi) = ps
  | _, [], h, _, _ => absurd rfl h
  | 0, [p], _, _, _ => by rw [join_one]; rfl
  | 0, p :: q :: r, _, h, _ => by simp at h
  | k + 1, [p], _, _, h => by
    rw [join_one]
    unfold Lib.splitK semi
    rw [index_miss 59 [32] p (h p (by simp))]
    rfl
  | k + 1, p :: q :: r, _, hl, h => by
    rw [join_two]
    unfold Lib.splitK
    have hi : Lib.index (p ++ semi ++ Lib.join (q :: r) semi) semi = p.length := by
      have := index_hit 59 [32] (Lib.join (q :: r) semi) p (h p (by simp))
      rw [List.append_assoc]
      exact this
    rw [hi]
    have hne : ((p.length : Int) == -1) = false := by rw [beq_eq_false_iff_ne]; omega
    rw [hne]
    have ih := split_join k (q :: r) (by simp) (by simp at hl ⊢; omega) (fun x hx => h x (List.mem_cons_of_mem _ hx))
    have e1 : (p ++ semi ++ Lib.join (q :: r) semi).take ((p.length : Int).toNat + 0) = p := by
      rw [List.append_assoc]; simp
    have e2 : (p ++ semi ++ Lib.join (q :: r) semi).drop ((p.length : Int).toNat + semi.length) = Lib.join (q :: r) semi := by
      have : (p ++ semi).length = (p.length : Int).toNat + semi.length := by simp
      rw [← this, List.drop_left]
    rw [if_neg (by decide), e1, e2, ih]
theorem join_cons (a : List UInt8) (r : List (List UInt8)) (h : r ≠ []) : Lib.join (a :: r) semi = a ++ semi ++ Lib.join r semi := by
  cases r with
  | nil => exact absurd rfl h
  | cons b r => exact join_two a b r
theorem split_ne (s0 : Nat) (sep : List UInt8) : ∀ (k : Nat) (s : List UInt8), Lib.splitK sep s0 k s ≠ []
  | 0, s => by simp [Lib.splitK]
  | k + 1, s => by unfold Lib.splitK; split <;> simp
theorem join_split : ∀ (k : Nat) (s : List UInt8), Lib.join (Lib.splitK semi 0 k s) semi = s
  | 0, s => by rw [Lib.splitK, join_one]
  | k + 1, s => by
    unfold Lib.splitK
    by_cases h : (Lib.index s semi == -1) = true
    · rw [if_pos h, join_one]
    · rw [if_neg h, join_cons _ _ (split_ne _ _ _ _), join_split k]
      rcases Lib.index_spec s semi with ⟨h1, _⟩ | ⟨i, h1, h2, h3, _⟩
      · rw [h1] at h; exact absurd rfl h
      · rw [h1]
        obtain ⟨z, hz⟩ := List.isPrefixOf_iff_prefix.1 (show semi.isPrefixOf (s.drop i) = true from h3)
        have e : s.drop (i + semi.length) = z := by rw [← List.drop_drop, ← hz, List.drop_left]
        rw [show ((i : Int).toNat + semi.length) = i + semi.length by simp, e]
        have : s.take i ++ (semi ++ z) = s := by rw [hz]; exact List.take_append_drop i s
        simpa using this

/-- The pieces of a text at the mark between tasks, six at most. -/
def psI (l : List UInt8) : List (List UInt8) := Lib.splitK semi 0 (min 6 (l.length + 1) - 1) l
def okS (l : List UInt8) : Bool := l.isEmpty || (decide ((psI l).length ≤ 5) && (psI l).all okR)
def tsS (l : List UInt8) : List Tk := if okS l then (if l = [] then [] else (psI l).map parsedT) else []

theorem okS_nil : okS [] = true ∧ tsS [] = [] := ⟨rfl, rfl⟩
theorem tsS_no {l : List UInt8} (h : okS l = false) : tsS l = [] := by rw [tsS, h]; rfl

theorem text_long {t : Tk} (h : t.ok = true) : 9 ≤ t.text.length := by
  obtain ⟨lo, hi, du, ev, cr⟩ := t
  have hv : validB lo hi du ev cr = true := h
  show 9 ≤ (textL lo hi du ev cr).length
  rw [textL, if_pos hv, taskL]
  have a := dec_pos ev
  have b : 1 ≤ (needL lo hi cr).length := by
    have := dec_pos lo
    cases cr <;> simp [needL] <;> omega
  simp [everyL]
  omega

/-- A set that a text is of is read. -/
theorem okS_of {l : List UInt8} {ts : List Tk} (hs : setB ts = true) (h0 : ts ≠ []) (hl : joinT ts = l) : okS l = true ∧ tsS l = ts ∧ l ≠ [] := by
  have h5 := setB_len hs
  have hall : ∀ t ∈ ts, t.ok = true := by
    unfold setB at hs; simp at hs; exact hs.2
  have hne : l ≠ [] := by
    have := joinT_ne hs h0
    rw [hl] at this
    intro e; rw [e] at this; cases this
  have hlen : 9 ≤ l.length := by
    rw [← hl]
    cases ts with
    | nil => exact absurd rfl h0
    | cons t r =>
      have := text_long (hall t (by simp))
      cases r with
      | nil => rw [joinT, List.map_cons, List.map_nil, join_one]; exact this
      | cons u r => rw [joinT, List.map_cons, List.map_cons, join_two]; simp; omega
  have hp : psI l = texts ts := by
    unfold psI
    rw [show min 6 (l.length + 1) - 1 = 4 + 1 by omega, ← hl]
    exact split_join 5 (texts ts) (by unfold texts; simpa using h0) (by rw [texts_len]; omega) (fun p hp => by
      obtain ⟨t, ht, rfl⟩ := List.mem_map.1 hp
      exact okR_semi (task_okR (hall t ht)).1)
  have ho : okS l = true := by
    unfold okS
    rw [hp]
    have h1 : (texts ts).all okR = true := List.all_eq_true.2 (fun p hp => by
      obtain ⟨t, ht, rfl⟩ := List.mem_map.1 hp
      exact (task_okR (hall t ht)).1)
    rw [h1, texts_len]
    simp [h5]
  refine ⟨ho, ?_, hne⟩
  rw [tsS, if_pos ho, if_neg hne, hp]
  unfold texts
  rw [List.map_map]
  conv => rhs; rw [← List.map_id ts]
  exact List.map_congr_left (fun t ht => (task_okR (hall t ht)).2)

/-- What is read is a set, and the text is of it. -/
theorem okS_spec {l : List UInt8} (h : okS l = true) (hl : l ≠ []) : setB (tsS l) = true ∧ tsS l ≠ [] ∧ joinT (tsS l) = l ∧ tsS l = (psI l).map parsedT ∧ (∀ p ∈ psI l, okR p = true) ∧ (psI l).length ≤ 5 := by
  have ht : tsS l = (psI l).map parsedT := by rw [tsS, if_pos h, if_neg hl]
  unfold okS at h
  have hle : l.isEmpty = false := by simpa using hl
  rw [hle, Bool.false_or, Bool.and_eq_true] at h
  have h5 : (psI l).length ≤ 5 := of_decide_eq_true h.1
  have hall : ∀ p ∈ psI l, okR p = true := List.all_eq_true.1 h.2
  refine ⟨?_, ?_, ?_, ht, hall, h5⟩
  · rw [ht]
    unfold setB
    simp
    exact ⟨h5, fun p hp => (okR_task (hall p hp)).1⟩
  · rw [ht]
    simpa [psI] using split_ne 0 semi _ l
  · rw [ht]
    unfold joinT
    rw [List.map_map]
    have : (psI l).map (Tk.text ∘ parsedT) = psI l := by
      conv => rhs; rw [← List.map_id (psI l)]
      exact List.map_congr_left (fun p hp => (okR_task (hall p hp)).2)
    rw [this]
    exact join_split _ l

/-- The pieces at the semicolons: each but the first begins with a blank. -/
def dress : List (List UInt8) → List (List UInt8)
  | [] => []
  | t :: r => t :: r.map (fun x => 32 :: x)
theorem pieces_dress : ∀ (r : List (List UInt8)) (t : List UInt8), (∀ p ∈ t :: r, (59 : UInt8) ∉ p) → pieces 59 (Lib.join (t :: r) semi) = t :: r.map (fun x => 32 :: x)
  | [], t, h => by rw [join_one]; exact pieces_miss (h t (by simp))
  | u :: r, t, h => by
    rw [join_two]
    have e : t ++ semi ++ Lib.join (u :: r) semi = t ++ 59 :: ([32] ++ Lib.join (u :: r) semi) := by simp [semi]
    rw [e, pieces_hit _ (h t (by simp))]
    have ih := pieces_dress r u (fun p hp => h p (List.mem_cons_of_mem _ hp))
    have : pieces 59 ([32] ++ Lib.join (u :: r) semi) = (32 :: u) :: r.map (fun x => 32 :: x) := by
      show pieces 59 (32 :: Lib.join (u :: r) semi) = _
      rw [pieces, if_neg (by decide), ih]
    rw [this]
    rfl
def joinC (c : UInt8) : List (List UInt8) → List UInt8
  | [] => []
  | [p] => p
  | p :: q :: r => p ++ c :: joinC c (q :: r)
theorem joinC_pieces (c : UInt8) : ∀ l : List UInt8, joinC c (pieces c l) = l
  | [] => rfl
  | b :: r => by
    have ih := joinC_pieces c r
    have hn := pieces_ne c r
    unfold pieces
    split
    · rename_i hb
      cases hp : pieces c r with
      | nil => exact absurd hp hn
      | cons p ps =>
        rw [hp] at ih
        show [] ++ c :: joinC c (p :: ps) = b :: r
        rw [ih, hb]; rfl
    · cases hp : pieces c r with
      | nil => exact absurd hp hn
      | cons p ps =>
        rw [hp] at ih
        cases ps with
        | nil => show b :: p = b :: r; rw [← ih]; rfl
        | cons q ps => show (b :: p) ++ c :: joinC c (q :: ps) = b :: r; rw [← ih]; rfl
theorem joinC_dress : ∀ (r : List (List UInt8)) (t : List UInt8), joinC 59 (t :: r.map (fun x => 32 :: x)) = Lib.join (t :: r) semi
  | [], t => by rw [join_one]; rfl
  | u :: r, t => by
    rw [join_two, ← joinC_dress r u]
    show t ++ 59 :: joinC 59 ((32 :: u) :: r.map (fun x => 32 :: x)) = _
    have : ∀ (rs : List (List UInt8)), joinC 59 ((32 :: u) :: rs) = 32 :: joinC 59 (u :: rs) := fun rs => by cases rs <;> rfl
    rw [this]
    simp [semi]

/-- A text whose pieces at the semicolons are texts of tasks is read as those. -/
theorem okS_dress {l : List UInt8} {t : List UInt8} {r : List (List UInt8)} (h : pieces 59 l = t :: r.map (fun x => 32 :: x)) (ho : ∀ p ∈ t :: r, okR p = true) (h5 : r.length + 1 ≤ 5) : okS l = true ∧ tsS l = (t :: r).map parsedT ∧ l ≠ [] := by
  have hj : Lib.join (t :: r) semi = l := by rw [← joinC_dress, ← h, joinC_pieces]
  refine okS_of (ts := (t :: r).map parsedT) ?_ (by simp) ?_
  · unfold setB
    simp
    exact ⟨by omega, (okR_task (ho t (by simp))).1, fun p hp => (okR_task (ho p (List.mem_cons_of_mem _ hp))).1⟩
  · unfold joinT
    rw [List.map_map]
    have : (t :: r).map (Tk.text ∘ parsedT) = t :: r := by
      conv => rhs; rw [← List.map_id (t :: r)]
      exact List.map_congr_left (fun p hp => (okR_task (ho p hp)).2)
    rw [this, hj]
theorem dress_okS {l : List UInt8} (h : okS l = true) (hl : l ≠ []) : ∃ t r, pieces 59 l = t :: r.map (fun x => 32 :: x) ∧ (∀ p ∈ t :: r, okR p = true) ∧ r.length + 1 ≤ 5 := by
  obtain ⟨h1, h2, h3, h4, h5, h6⟩ := okS_spec h hl
  have hj := join_split (min 6 (l.length + 1) - 1) l
  cases hp : psI l with
  | nil => exact absurd hp (split_ne _ _ _ _)
  | cons t r =>
    have hj' : Lib.join (t :: r) semi = l := by rw [← hp]; exact hj
    rw [hp] at h5 h6
    refine ⟨t, r, ?_, h5, by simpa using h6⟩
    conv => lhs; rw [← hj']
    exact pieces_dress r t (fun p hpp => okR_semi (h5 p hpp))

end Go.Proofs.YtnhffadebjibnabDoor
