/- Contract of the reference's reader of needs: at the needs of a valid task it returns them. -/
import Derived.Test.YtnhffadebjibnabDoorCutS
import Derived.Test.YtnhffadebjibnabDoorNumS
namespace Go.Proofs.YtnhffadebjibnabDoor
open Go.RowKit

theorem pieces_miss {c : UInt8} : ∀ {a : List UInt8}, c ∉ a → pieces c a = [a]
  | [], _ => rfl
  | b :: r, h => by
    have h1 : ¬ b = c := fun e => h (by simp [e])
    rw [pieces, if_neg h1, pieces_miss (fun e => h (List.mem_cons_of_mem _ e))]
theorem pieces_hit {c : UInt8} (s : List UInt8) : ∀ {a : List UInt8}, c ∉ a → pieces c (a ++ c :: s) = a :: pieces c s
  | [], _ => by rw [List.nil_append, pieces, if_pos rfl]
  | b :: r, h => by
    have h1 : ¬ b = c := fun e => h (by simp [e])
    rw [List.cons_append, pieces, if_neg h1, pieces_hit s (fun e => h (List.mem_cons_of_mem _ e))]

theorem pieces_len (c : UInt8) : ∀ (l : List UInt8), ∀ p ∈ pieces c l, p.length ≤ l.length
  | [], p, h => by simp [pieces] at h; simp [h]
  | b :: r, p, h => by
    have ih := pieces_len c r
    unfold pieces at h
    split at h
    · rcases List.mem_cons.1 h with rfl | h
      · simp
      · have := ih p h; simp; omega
    · split at h
      · rename_i q qs hq
        rcases List.mem_cons.1 h with rfl | h
        · have := ih q (by rw [hq]; simp); simp; omega
        · have := ih p (by rw [hq]; exact List.mem_cons_of_mem _ h); simp; omega
      · simp at h; subst h; simp
theorem pieces_count (c : UInt8) : ∀ (l : List UInt8), (pieces c l).length ≤ l.length + 1
  | [] => by simp [pieces]
  | b :: r => by
    have ih := pieces_count c r
    unfold pieces
    split
    · simp; omega
    · split
      · rename_i q qs hq; rw [hq] at ih; simp at ih ⊢; omega
      · simp

theorem OwnS.at_ {w : World} {B : Nat} {v : Value} {xs : List (List UInt8)} (h : OwnS w B v xs) (hx : xs ≠ []) :
    ∃ g c, v = .slice (some ⟨g, 0, none⟩) xs.length c ∧ g < w.heap.size ∧ B ≤ g ∧ ∀ j x, xs[j]? = some x → w.cell? ⟨g, j, none⟩ = some (str x) := by
  rcases h.2 with ⟨_, h0⟩ | ⟨g, cap, cur, e, hB, hg, _⟩
  · exact absurd (List.length_eq_zero_iff.1 h0) hx
  · have hlt : g < w.heap.size := by
      rcases Nat.lt_or_ge g w.heap.size with hlt | hge
      · exact hlt
      · rw [Array.getElem?_eq_none hge] at hg; cases hg
    refine ⟨g, cap, e, hlt, hB, fun j x hj => ?_⟩
    subst e
    have := h.cells (g := g) rfl j (str x) (by rw [List.getElem?_map, hj]; rfl)
    have ea : (⟨g, 0, none⟩ : Addr).add j = ⟨g, j, none⟩ := by unfold Addr.add; split <;> simp_all
    rw [ea] at this
    exact this

theorem need_pieces {lo hi : Int} {cr : Bool} (h1 : 1 ≤ lo) (h2 : lo ≤ 20) (h3 : 1 ≤ hi) (h4 : hi ≤ 20) : pieces 47 (needL lo hi cr) = if cr then [dec lo, dec hi] else [dec lo] := by
  obtain ⟨a1, a2⟩ := sep_dec (n := lo) (by omega) (by omega)
  obtain ⟨b1, b2⟩ := sep_dec (n := hi) (by omega) (by omega)
  cases cr
  · exact pieces_miss a2
  · have := pieces_hit (dec hi) a2
    rw [pieces_miss b2] at this
    exact this

/-- What the reader of needs returns. -/
def NeedS (l : List UInt8) (w : World) (e : Ending) (w' : World) : Prop :=
  ∃ (lo hi : Int) (cr b : Bool), e = .returned (.tuple #[.agg #[.int .i64 lo, .int .i64 hi, .int .i64 0, .int .i64 0, .bool cr], .bool b]) ∧ Below w.heap.size w w' ∧
    ∀ (lo0 hi0 : Int) (cr0 : Bool), 1 ≤ lo0 → lo0 ≤ 20 → 1 ≤ hi0 → hi0 ≤ 20 → (cr0 = false → hi0 = lo0) → l = needL lo0 hi0 cr0 → lo = lo0 ∧ hi = hi0 ∧ cr = cr0 ∧ b = true

theorem cut_at (w : World) (l : List UInt8) (c : UInt8) (n : Int) (hn : n = (c.toNat : Int)) (hl : l.length ≤ 2000000) :
    Calls Tryd.prog 46 #[str l, .int .u8 n] w fun e w' => ∃ v, e = .returned v ∧ OwnS w' w.heap.size v (pieces c l) ∧ Below w.heap.size w w' := by
  subst hn
  exact l11Cut_any w l c hl

set_option maxRecDepth 100000 in
set_option maxHeartbeats 2000000 in
theorem l1Need_any (w : World) (l : List UInt8) (hl : l.length ≤ 2000000) :
    Calls Tryd.prog 47 #[str l] w (NeedS l w) := by
  have hn := pieces_ne 47 l
  have hln := pieces_len 47 l
  have hct := pieces_count 47 l
  have hp := fun lo hi cr h1 h2 h3 h4 (h : l = needL lo hi cr) => h ▸ need_pieces (lo := lo) (hi := hi) (cr := cr) h1 h2 h3 h4
  have hc := fun W => cut_at W l 47 47 rfl hl
  generalize pieces 47 l = ps at hn hln hp hc hct
  have HP := Lib.hid hp
  have HC := Lib.hid hc
  clear hp hc
  go_enter Tryd.func47, Tryd.ntmps47
  go_wp2_with fail
  refine (HC.out _).mono ?_
  rintro e w1 ⟨v, rfl, ho, hb⟩
  have HB1 := Lib.hid (bl_trans (bl_alloc (Below.refl w.heap.size w) _) hb)
  have bR := Lib.hid ((Blk.new w 24 _).below hb (by simp))
  have s1 : w.heap.size < w1.heap.size := bR.out.lt
  obtain ⟨g, c, rfl, hg, hgB, hcell⟩ := ho.at_ hn
  clear hb ho HC
  cases ps with
  | nil => exact absurd rfl hn
  | cons p0 ps =>
    have c0 := hcell 0 p0 rfl
    have l0 : p0.length ≤ 4000000 := Nat.le_trans (hln p0 (by simp)) (by omega)
    have cR := bR.out.cell
    have fR := bR.out.frozen
    cases ps with
    | nil =>
      clear hcell hln hct
      go_wp2_with fail
      refine (l11Num_any _ p0 l0).mono ?_
      rintro e w2 ⟨k0, b0, rfl, rfl, h0⟩
      have H0 := Lib.hid h0
      clear h0
      go_wp2
      have bF := Blk.alloc (Blk.set_ ((Blk.set_ ((Blk.set_ ((Blk.set_ ((Blk.set_ (bR.out) 0 (.int .i64 k0))) 1 (.int .i64 k0))) 2 (.int .i64 0))) 3 (.int .i64 0))) 4 (.bool false)) (.cells #[.int .i64 k0, .int .i64 k0, .int .i64 0, .int .i64 0, .bool false] 24)
      have cF := bF.cell
      refine bodyPost_ret (v := .tuple #[.agg #[.int .i64 k0, .int .i64 k0, .int .i64 0, .int .i64 0, .bool false], .bool (b0)]) (by simp [results, Tryd.results47, go_sem, cF]) rfl ⟨_, _, _, _, rfl, bl_alloc (bl_set (bl_set (bl_set (bl_set (bl_set (HB1.out) (by dsimp only; omega) _) (by dsimp only; omega) _) (by dsimp only; omega) _) (by dsimp only; omega) _) (by dsimp only; omega) _) _, fun lo0 hi0 cr0 h1 h2 h3 h4 hq hl => by
        have hh := HP.out lo0 hi0 cr0 h1 h2 h3 h4 hl
        cases cr0
        · simp at hh
          obtain ⟨e1, e2⟩ := H0.out lo0 h1 h2 hh
          exact ⟨e1, by rw [hq rfl]; exact e1, rfl, e2⟩
        · simp at hh⟩
    | cons p1 ps =>
      have c1 := hcell 1 p1 rfl
      have l1 : p1.length ≤ 4000000 := Nat.le_trans (hln p1 (by simp)) (by omega)
      obtain ⟨m, hm⟩ : ∃ m, (p0 :: p1 :: ps).length = m := ⟨_, rfl⟩
      have hmax : m ≤ 2000001 := by rw [← hm]; exact Nat.le_trans hct (by omega)
      have hm2 : 2 ≤ m := by rw [← hm]; simp
      have HM := Lib.hid hm
      rw [hm]
      have hz : ((m : Int) == 1) = false := beq_eq_false_iff_ne.2 (by omega)
      have z0 : (0 : Int) < (m : Int) := by omega
      have z1 : (1 : Int) < (m : Int) := by omega
      clear hcell hln hct hm
      obtain ⟨tw, htw⟩ : ∃ tw : Bool, ((m : Int) == 2) = tw := ⟨_, rfl⟩
      have HTW := Lib.hid htw
      go_wp2_with fail
      refine (l11Num_any _ p0 l0).mono ?_
      rintro e w2 ⟨k0, b0, rfl, rfl, h0⟩
      have H0 := Lib.hid h0
      clear h0
      go_wp2_with fail
      refine (l11Num_any _ p1 l1).mono ?_
      rintro e w2 ⟨k1, b1, rfl, rfl, h0⟩
      have H1 := Lib.hid h0
      clear h0
      cases b0
      · go_wp2
        have bF := Blk.alloc (Blk.set_ ((Blk.set_ ((Blk.set_ ((Blk.set_ ((Blk.set_ (bR.out) 0 (.int .i64 k0))) 1 (.int .i64 k1))) 2 (.int .i64 0))) 3 (.int .i64 0))) 4 (.bool true)) (.cells #[.int .i64 k0, .int .i64 k1, .int .i64 0, .int .i64 0, .bool true] 24)
        have cF := bF.cell
        refine bodyPost_ret (v := .tuple #[.agg #[.int .i64 k0, .int .i64 k1, .int .i64 0, .int .i64 0, .bool true], .bool (false)]) (by simp [results, Tryd.results47, go_sem, cF]) rfl ⟨_, _, _, _, rfl, bl_alloc (bl_set (bl_set (bl_set (bl_set (bl_set (HB1.out) (by dsimp only; omega) _) (by dsimp only; omega) _) (by dsimp only; omega) _) (by dsimp only; omega) _) (by dsimp only; omega) _) _, fun lo0 hi0 cr0 h1 h2 h3 h4 hq hl => by
          have hh := HP.out lo0 hi0 cr0 h1 h2 h3 h4 hl
          cases cr0
          · simp at hh
          · simp at hh
            obtain ⟨e1, e2⟩ := H0.out lo0 h1 h2 hh.1
            cases e2⟩
      · cases b1
        · go_wp2
          have bF := Blk.alloc (Blk.set_ ((Blk.set_ ((Blk.set_ ((Blk.set_ ((Blk.set_ (bR.out) 0 (.int .i64 k0))) 1 (.int .i64 k1))) 2 (.int .i64 0))) 3 (.int .i64 0))) 4 (.bool true)) (.cells #[.int .i64 k0, .int .i64 k1, .int .i64 0, .int .i64 0, .bool true] 24)
          have cF := bF.cell
          refine bodyPost_ret (v := .tuple #[.agg #[.int .i64 k0, .int .i64 k1, .int .i64 0, .int .i64 0, .bool true], .bool (false)]) (by simp [results, Tryd.results47, go_sem, cF]) rfl ⟨_, _, _, _, rfl, bl_alloc (bl_set (bl_set (bl_set (bl_set (bl_set (HB1.out) (by dsimp only; omega) _) (by dsimp only; omega) _) (by dsimp only; omega) _) (by dsimp only; omega) _) (by dsimp only; omega) _) _, fun lo0 hi0 cr0 h1 h2 h3 h4 hq hl => by
            have hh := HP.out lo0 hi0 cr0 h1 h2 h3 h4 hl
            cases cr0
            · simp at hh
            · simp at hh
              obtain ⟨e1, e2⟩ := H1.out hi0 h3 h4 hh.2.1
              cases e2⟩
        · go_wp2
          have bF := Blk.alloc (Blk.set_ ((Blk.set_ ((Blk.set_ ((Blk.set_ ((Blk.set_ (bR.out) 0 (.int .i64 k0))) 1 (.int .i64 k1))) 2 (.int .i64 0))) 3 (.int .i64 0))) 4 (.bool true)) (.cells #[.int .i64 k0, .int .i64 k1, .int .i64 0, .int .i64 0, .bool true] 24)
          have cF := bF.cell
          refine bodyPost_ret (v := .tuple #[.agg #[.int .i64 k0, .int .i64 k1, .int .i64 0, .int .i64 0, .bool true], .bool (tw)]) (by simp [results, Tryd.results47, go_sem, cF]) rfl ⟨_, _, _, _, rfl, bl_alloc (bl_set (bl_set (bl_set (bl_set (bl_set (HB1.out) (by dsimp only; omega) _) (by dsimp only; omega) _) (by dsimp only; omega) _) (by dsimp only; omega) _) (by dsimp only; omega) _) _, fun lo0 hi0 cr0 h1 h2 h3 h4 hq hl => by
            have hh := HP.out lo0 hi0 cr0 h1 h2 h3 h4 hl
            cases cr0
            · simp at hh
            · simp at hh
              obtain ⟨e1, _⟩ := H0.out lo0 h1 h2 hh.1
              obtain ⟨e2, _⟩ := H1.out hi0 h3 h4 hh.2.1
              refine ⟨e1, e2, rfl, ?_⟩
              rw [← HTW.out]
              have := HM.out
              rw [hh.2.2] at this
              simp at this
              subst this
              rfl⟩

end Go.Proofs.YtnhffadebjibnabDoor
