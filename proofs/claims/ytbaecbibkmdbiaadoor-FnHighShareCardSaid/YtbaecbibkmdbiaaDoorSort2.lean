/- Contracts of SortDue, in the program and in the reference: both return the tasks sorted by insertion from behind, in memory of their own. -/
import Derived.Test.YtbaecbibkmdbiaaDoorSort
import Derived.Laws.AppendOwnNone
namespace Go.Proofs.YtbaecbibkmdbiaaDoor
open Go.RowKit

set_option maxHeartbeats 1000000 in
theorem iSortDue_any (w : World) (A : Option Addr) (n c : Nat) (ts : List Tk) (h : Tks w w.heap.size A n ts) (hn : n ≤ 1048576) :
    Calls Tryd.prog 23 #[.slice A n c] w (LsRes (sortOf ts) w) := by
  obtain ⟨i0, hi, hz0, hz1, hz2⟩ := info_parts info_task
  have H := Lib.hid h
  have HL := Lib.hid h.len
  clear h
  cases hs : setB ts
  · go_enter Tryd.func23, Tryd.ntmps23
    go_wp2_with (go_at_call 15; refine (iSetValid_any _ _ _ _ ts H.out hn).mono ?_; rintro e w1 ⟨rfl, hb⟩)
    go_ret
    exact lsRes_of (Own.nil_ _ _) hb (by simp [sortOf, hs])
  have h5 : n ≤ 5 := by have := setB_len hs; rw [HL.out] at this; exact this
  go_enter Tryd.func23, Tryd.ntmps23
  go_wp2_with fail
  refine (iSetValid_any _ _ _ _ ts H.out hn).mono ?_
  rintro e w1 ⟨rfl, hb⟩
  have HB1 := Lib.hid hb
  have hsz1 : w.heap.size ≤ w1.heap.size := hb.size
  have HS := Lib.hid hs
  clear hb
  go_wp2_with (at_make; refine wpList_make_own _ rfl _ _ 23 rfl w.heap.size 40 i0 _ 5 Tryd.underlying23 hi hz0 hz1 .i64 .i64 _ n rfl rfl rfl (by rw [hz2]; omega) (by unfold maxLen; omega) hsz1 ?_; intro w2 hown0 hgrow0)
  have HO0 := Lib.hid (show Own w2 w.heap.size _ [] from hown0)
  have HB2 := Lib.hid (HB1.out.grown hgrow0 hsz1 (fun k e => by cases e))
  clear hown0 hgrow0 hs
  go_loopw [3, 14] (fun v i wr => ∃ k : Nat, k ≤ n ∧ i = .int .i64 k ∧ v = .slice (some ⟨w1.heap.size, 0, none⟩) k n ∧ Own wr w.heap.size (.slice (some ⟨w1.heap.size, 0, none⟩) k n) (sortL (ts.take k)) ∧ Below w.heap.size w wr) (fun _ i _ => n - (intOf i).toNat)
  case atStart => exact ⟨0, Nat.zero_le _, rfl, rfl, HO0.out, HB2.out⟩
  case round =>
    obtain ⟨k, hk, rfl, rfl, ho, hb⟩ := hrel
    have HO := Lib.hid ho
    have HB := Lib.hid hb
    have hsz : w.heap.size ≤ wr.heap.size := hb.size
    clear ho hb
    by_cases hlt : k < n
    · obtain ⟨t, ht⟩ : ∃ t, ts[k]? = some t := ⟨ts[k]'(by rw [HL.out]; exact hlt), List.getElem?_eq_getElem _⟩
      obtain ⟨b, o, rfl, hbl, c0, c1, c2, c3, c4⟩ := (H.out.below HB.out).at_ k t ht
      have HT := Lib.hid (sortL_take ht)
      have hl : (sortL (ts.take (k + 1))).length = k + 1 := by rw [sortL_len, List.length_take, HL.out]; omega
      have HLN := Lib.hid hl
      obtain ⟨lo, hi', du, ev, cr⟩ := t
      dsimp only at c0 c1 c2 c3 c4
      clear ht hl
      go_wp2_with fail
      refine (insertInOrder_any _ w.heap.size w1.heap.size k n (sortL (ts.take k)) ⟨lo, hi', du, ev, cr⟩ (HO.out.alloc _) (by omega) (by omega)).mono ?_
      rintro e w5 ⟨rfl, ho5, hg5⟩
      rw [← HT.out, HLN.out] at ho5
      have hlen : (insB ⟨lo, hi', du, ev, cr⟩ (sortL (ts.take k))).length = k + 1 := by rw [← HT.out]; exact HLN.out
      rw [hlen]
      have HO5 := Lib.hid ho5
      have HB5 := Lib.hid ((bl_alloc HB.out _).grown hg5 (by simp; omega) (fun x e => by injection e with e; omega))
      clear ho5 hg5 hlen
      go_wp2
      go_roundw
      case rel => exact ⟨k + 1, by omega, by go_num, rfl, HO5.out, HB5.out⟩
      case measure => simp [intOf]; omega
    · obtain rfl : k = n := by omega
      go_wp2
      go_ret
      exact lsRes_of HO.out HB.out (by rw [List.take_of_length_le (by rw [HL.out]; omega)]; simp [sortOf, HS.out])

theorem Own.kept_dn {w w' : World} {B M : Nat} {v : Value} {ts : List Tk} {row : Option Nat} (h : Own w B v ts) (hg : w.grownBy w' row) (hv : ∀ k, v.ownBlock = some k → k < M) (hr : ∀ k, row = some k → M ≤ k) : Own w' B v ts := by
  refine World.ownsRow.kept h hg ?_
  rcases he : v.ownBlock with _ | k
  · exact .inl rfl
  · right
    intro e
    have := hv k he
    have := hr k e.symm
    omega
theorem own_first {w : World} {B q : Nat} {v : Value} {us : List Tk} (hl : us.length = 0 + q) (h : w.ownsRow B 40 5 v (0 + q) ([] ++ us.flatMap Tk.cells)) : Own w B v us := by
  show w.ownsRow _ _ _ _ _ _
  rw [hl]
  simpa using h
theorem tk_at {w : World} {B b o n i : Nat} {ts : List Tk} {t : Tk} (h : Tks w B (some ⟨b, o, none⟩) n ts) (ht : ts[i]? = some t) :
    w.cell? ⟨b, o + i * 5, none⟩ = some (.int .i64 t.lo) ∧ w.cell? ⟨b, o + i * 5 + 1, none⟩ = some (.int .i64 t.hi) ∧ w.cell? ⟨b, o + i * 5 + 2, none⟩ = some (.int .i64 t.du) ∧ w.cell? ⟨b, o + i * 5 + 3, none⟩ = some (.int .i64 t.ev) ∧ w.cell? ⟨b, o + i * 5 + 4, none⟩ = some (.bool t.cr) := by
  obtain ⟨b', o', e, _, c0, c1, c2, c3, c4⟩ := h.at_ i t ht
  injection e with e
  injection e with e1 e2
  subst e1 e2
  exact ⟨c0, c1, c2, c3, c4⟩
theorem drop_at {w : World} {B g k cc q : Nat} {out : List Tk} (ho : Own w B (.slice (some ⟨g, 0, none⟩) k cc) out) (hl : k = out.length) (ad : Addr) (had : cc = q ∨ ad = ⟨g, q * 5, none⟩) (hkc : k ≤ cc) :
    ∀ (j : Nat) (u : Value), ((out.drop q).flatMap Tk.cells)[j]? = some u → w.cell? (ad.add j) = some u := fun j u hu => by
  have hj := (List.getElem?_eq_some_iff.1 hu).1
  rw [cells_length, List.length_drop, ← hl] at hj
  rcases had with h1 | h1
  · omega
  · subst h1 hl
    rw [← drop_cells, List.getElem?_drop] at hu
    have := World.ownsRow.cells ho (g := g) rfl (q * 5 + j) u hu
    have e1 : (⟨g, 0, none⟩ : Addr).add (q * 5 + j) = ⟨g, q * 5 + j, none⟩ := by unfold Addr.add; split <;> simp_all
    have e2 : (⟨g, q * 5, none⟩ : Addr).add j = ⟨g, q * 5 + j, none⟩ := by unfold Addr.add; split <;> simp_all
    rw [e2]; rw [e1] at this; exact this
theorem own_last {w : World} {B B' q k : Nat} {v : Value} {out : List Tk} {t : Tk} (hl : k = out.length) (hq : posB t out out.length = q) (hB : B' ≤ B)
    (h : w.ownsRow B 40 5 v ((out.take q ++ [t]).length + (k - q)) ((out.take q ++ [t]).flatMap Tk.cells ++ (out.drop q).flatMap Tk.cells)) : Own w B' v (insB t out) := by
  refine own_more (B := B) ?_ hB
  unfold insB
  rw [hq]
  show w.ownsRow _ _ _ _ _ _
  have e : (out.take q ++ t :: out.drop q).length = (out.take q ++ [t]).length + (k - q) := by simp [hl] <;> omega
  have e2 : (out.take q ++ t :: out.drop q).flatMap Tk.cells = (out.take q ++ [t]).flatMap Tk.cells ++ (out.drop q).flatMap Tk.cells := by simp [List.flatMap_append, List.flatMap_cons]
  rw [e, e2]
  exact h

/-- The tasks of a list that is not nil lie in a block. -/
theorem own_form {w : World} {B : Nat} {v : Value} {ts : List Tk} (h : Own w B v ts) (hv : v ≠ .slice none 0 0) : ∃ g c, v = .slice (some ⟨g, 0, none⟩) ts.length c := by
  rcases h.2 with ⟨e, _⟩ | ⟨g, cap, cur, e, _⟩
  · exact absurd e hv
  · exact ⟨g, cap, e⟩

end Go.Proofs.YtbaecbibkmdbiaaDoor
