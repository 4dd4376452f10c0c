/- The pieces of a text between bytes, as plain data. -/
import Derived.Test.YthdclaljgimclaaDoorKit
namespace Go.Proofs.YthdclaljgimclaaDoor

/-- The pieces of a text between the bytes c. -/
def pieces (c : UInt8) : List UInt8 → List (List UInt8)
  | [] => [[]]
  | b :: r => if b = c then [] :: pieces c r else match pieces c r with | p :: ps => (b :: p) :: ps | [] => [[b]]
def glue (a : List UInt8) : List (List UInt8) → List (List UInt8)
  | p :: ps => (a ++ p) :: ps
  | [] => [a]

theorem pieces_ne (c : UInt8) (l : List UInt8) : pieces c l ≠ [] := by
  cases l with
  | nil => simp [pieces]
  | cons b r =>
    unfold pieces
    split
    · simp
    · split <;> simp
theorem glue_nil (c : UInt8) (l : List UInt8) : glue [] (pieces c l) = pieces c l := by
  have h := pieces_ne c l
  cases hp : pieces c l with
  | nil => exact absurd hp h
  | cons p ps => simp [glue]
theorem glue_hit {c b : UInt8} {r a : List UInt8} (h : b = c) : glue a (pieces c (b :: r)) = a :: pieces c r := by
  rw [pieces, if_pos h]
  simp [glue]
theorem glue_miss {c b : UInt8} {r a : List UInt8} (h : ¬ b = c) : glue a (pieces c (b :: r)) = glue (a ++ [b]) (pieces c r) := by
  rw [pieces, if_neg h]
  have hn := pieces_ne c r
  cases hp : pieces c r with
  | nil => exact absurd hp hn
  | cons p ps => simp [glue]

theorem pieces_miss {c : UInt8} : ∀ {a : List UInt8}, c ∉ a → pieces c a = [a]
  | [], _ => rfl
  | b :: r, h => by
    have h1 : ¬ b = c := fun e => h (by simp [e])
    rw [pieces, if_neg h1, pieces_miss (fun e => h (List.mem_cons_of_mem _ e))]
theorem pieces_hit {c : UInt8} (s : List UInt8) : ∀ {a : List UInt8}, c ∉ a → pieces c (a ++ c :: s) = a :: pieces c s
  | [], _ => by rw [List.nil_append, pieces, if_pos rfl]
  | b :: r, h => by
    have h1 : ¬ b = c := fun e => h (by simp [e])
    rw [List.cons_append, pieces, if_neg h1, pieces_hit s (fun e => h (List.mem_cons_of_mem _ e))]

theorem pieces_len (c : UInt8) : ∀ (l : List UInt8), ∀ p ∈ pieces c l, p.length ≤ l.length
  | [], p, h => by simp [pieces] at h; simp [h]
  | b :: r, p, h => by
    have ih := pieces_len c r
    unfold pieces at h
    split at h
    · rcases List.mem_cons.1 h with rfl | h
      · simp
      · have := ih p h; simp; omega
    · split at h
      · rename_i q qs hq
        rcases List.mem_cons.1 h with rfl | h
        · have := ih q (by rw [hq]; simp); simp; omega
        · have := ih p (by rw [hq]; exact List.mem_cons_of_mem _ h); simp; omega
      · simp at h; subst h; simp
theorem pieces_count (c : UInt8) : ∀ (l : List UInt8), (pieces c l).length ≤ l.length + 1
  | [] => by simp [pieces]
  | b :: r => by
    have ih := pieces_count c r
    unfold pieces
    split
    · simp; omega
    · split
      · rename_i q qs hq; rw [hq] at ih; simp at ih ⊢; omega
      · simp

def joinC (c : UInt8) : List (List UInt8) → List UInt8
  | [] => []
  | [p] => p
  | p :: q :: r => p ++ c :: joinC c (q :: r)
theorem joinC_pieces (c : UInt8) : ∀ l : List UInt8, joinC c (pieces c l) = l
  | [] => rfl
  | b :: r => by
    have ih := joinC_pieces c r
    have hn := pieces_ne c r
    unfold pieces
    split
    · rename_i hb
      cases hp : pieces c r with
      | nil => exact absurd hp hn
      | cons p ps =>
        rw [hp] at ih
        show [] ++ c :: joinC c (p :: ps) = b :: r
        rw [ih, hb]; rfl
    · cases hp : pieces c r with
      | nil => exact absurd hp hn
      | cons p ps =>
        rw [hp] at ih
        cases ps with
        | nil => show b :: p = b :: r; rw [← ih]; rfl
        | cons q ps => show (b :: p) ++ c :: joinC c (q :: ps) = b :: r; rw [← ih]; rfl

end Go.Proofs.YthdclaljgimclaaDoor
