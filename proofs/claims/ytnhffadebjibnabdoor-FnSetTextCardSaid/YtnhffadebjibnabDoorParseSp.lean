/- Contract of ParseTask of the reference: it parses as the program does. -/
import Derived.Test.YtnhffadebjibnabDoorNeedS
import Derived.Test.YtnhffadebjibnabDoorParseT
namespace Go.Proofs.YtnhffadebjibnabDoor
open Go.RowKit

theorem text_pieces {lo hi du ev : Int} {cr : Bool} (h : validB lo hi du ev cr = true) :
    pieces 32 (textL lo hi du ev cr) = if du = ev then [needL lo hi cr, [101, 118, 101, 114, 121], dec ev] else [needL lo hi cr, [101, 118, 101, 114, 121], dec ev, [98, 121], dec du] := by
  obtain ⟨v1, v2, v3, v4, v5⟩ := valid_of h
  obtain ⟨a1, a2⟩ := sep_dec (n := lo) (by omega) (by omega)
  obtain ⟨b1, b2⟩ := sep_dec (n := hi) (by omega) (by omega)
  obtain ⟨c1, c2⟩ := sep_dec (n := du) (by omega) (by omega)
  obtain ⟨d1, d2⟩ := sep_dec (n := ev) (by omega) (by omega)
  have e1 : (32 : UInt8) ∉ needL lo hi cr := by cases cr <;> simp [needL, a1, b1]
  have e2 : (32 : UInt8) ∉ ([101, 118, 101, 114, 121] : List UInt8) := by decide
  have e3 : (32 : UInt8) ∉ ([98, 121] : List UInt8) := by decide
  have e : textL lo hi du ev cr = needL lo hi cr ++ 32 :: ([101, 118, 101, 114, 121] ++ 32 :: (dec ev ++ dueL du ev)) := by
    rw [textL, if_pos h, taskL]
    simp [everyL]
  rw [e, pieces_hit _ e1, pieces_hit _ e2]
  by_cases hd : du = ev
  · rw [if_pos hd, dueL, if_pos hd, List.append_nil, pieces_miss d1]
  · rw [if_neg hd, dueL, if_neg hd]
    have := pieces_hit ([98, 121] ++ 32 :: dec du) d1
    rw [pieces_hit _ e3, pieces_miss c1] at this
    rw [← this]
    simp

def Good (l : List UInt8) (lo hi du ev : Int) (cr b : Bool) : Prop :=
  ∀ (lo0 hi0 du0 ev0 : Int) (cr0 : Bool), validB lo0 hi0 du0 ev0 cr0 = true → l = textL lo0 hi0 du0 ev0 cr0 → lo = lo0 ∧ hi = hi0 ∧ du = du0 ∧ ev = ev0 ∧ cr = cr0 ∧ b = true
theorem parsed_no {l : List UInt8} (h : okR l = false) : parsedT l = ⟨0, 0, 0, 0, false⟩ := by rw [parsedT, h]; rfl
theorem good_no {l : List UInt8} {lo hi du ev : Int} {cr b : Bool} (G : Good l lo hi du ev cr b) (hb : b = false) : okR l = false := by
  cases h : okR l
  · rfl
  · obtain ⟨lo0, hi0, du0, ev0, cr0, hv, hl, _⟩ := okR_spec h
    have := (G lo0 hi0 du0 ev0 cr0 hv hl).2.2.2.2.2
    rw [hb] at this
    cases this
theorem good_diff {l : List UInt8} {lo hi du ev : Int} {cr b : Bool} (G : Good l lo hi du ev cr b) (hd : ¬ textL lo hi du ev cr = l) : okR l = false := by
  cases h : okR l
  · rfl
  · obtain ⟨lo0, hi0, du0, ev0, cr0, hv, hl, _⟩ := okR_spec h
    obtain ⟨e1, e2, e3, e4, e5, _⟩ := G lo0 hi0 du0 ev0 cr0 hv hl
    exact absurd (by rw [e1, e2, e3, e4, e5, hl]) hd
theorem good_yes {l : List UInt8} {lo hi du ev : Int} {cr b : Bool} (_ : Good l lo hi du ev cr b) (_ : b = true) (he : textL lo hi du ev cr = l) (hl : l ≠ []) : okR l = true ∧ parsedT l = ⟨lo, hi, du, ev, cr⟩ := by
  cases hv : validB lo hi du ev cr
  · rw [textL_nil hv] at he
    exact absurd he.symm hl
  · have := okR_text hv
    rw [he] at this
    exact this

set_option maxRecDepth 100000 in
set_option maxHeartbeats 4000000 in
theorem sParseTask_any (w : World) (l : List UInt8) (hl : l.length ≤ 2000000) :
    Calls Tryd.prog 19 #[str l] w (PRes l w) := by
  obtain ⟨ps, hq⟩ : ∃ ps, ps = pieces 32 l := ⟨_, rfl⟩
  have hn := pieces_ne 32 l
  have hln := pieces_len 32 l
  have hp : ∀ lo hi du ev cr, validB lo hi du ev cr = true → l = textL lo hi du ev cr → pieces 32 l = if du = ev then [needL lo hi cr, [101, 118, 101, 114, 121], dec ev] else [needL lo hi cr, [101, 118, 101, 114, 121], dec ev, [98, 121], dec du] := fun lo hi du ev cr hv h => by
    rw [h]; exact text_pieces hv
  have hc := fun W => cut_at W l 32 32 rfl hl
  have hct := pieces_count 32 l
  rw [← hq] at hn hln hp hc hct
  have HP := Lib.hid hp
  have HC := Lib.hid hc
  clear hp hc
  go_enter Tryd.func19, Tryd.ntmps19
  go_wp2_with fail
  refine (HC.out _).mono ?_
  rintro e w1 ⟨v, rfl, ho, hb⟩
  have HB1 := Lib.hid (bl_trans (bl_alloc (Below.refl w.heap.size w) _) hb)
  have bR := Lib.hid ((Blk.new w 24 _).below hb (by simp))
  have s1 : w.heap.size < w1.heap.size := bR.out.lt
  obtain ⟨g, c, rfl, hg, hgB, hcell⟩ := ho.at_ hn
  clear hb ho HC
  by_cases h3 : ps.length = 3
  · obtain ⟨p0, p1, p2, rfl⟩ : ∃ p0 p1 p2, ps = [p0, p1, p2] := by
      match ps, h3 with
      | [p0, p1, p2], _ => exact ⟨p0, p1, p2, rfl⟩
    clear h3 hn hct
    have hl0 : l ≠ [] := fun e => by rw [e] at hq; simp [pieces] at hq
    have c0 := hcell 0 p0 rfl
    have c2 := hcell 2 p2 rfl
    have l0 : p0.length ≤ 2000000 := Nat.le_trans (hln p0 (by simp)) (by omega)
    have l2 : p2.length ≤ 4000000 := Nat.le_trans (hln p2 (by simp)) (by omega)
    clear hcell hln hq
    go_wp2_with fail
    refine (l1Need_any _ p0 l0).mono ?_
    rintro e w2 ⟨lo, hi, cr, b, rfl, hb, h0⟩
    have H0 := Lib.hid h0
    have HB2 := Lib.hid (bl_trans HB1.out hb)
    have bR2 := Lib.hid (bR.out.below hb (by omega))
    have s2 : w.heap.size < w2.heap.size := bR2.out.lt
    have g2 : g < w2.heap.size := Nat.lt_of_lt_of_le hg hb.size
    have d2 := (hb.cell (p := ⟨g, 2, none⟩) hg).trans c2
    clear hb h0 c0 c2 bR
    have cR := bR2.out.cell
    have fR := bR2.out.frozen
    go_wp2_with fail
    refine (l11Num_any _ p2 l2).mono ?_
    rintro e w3 ⟨k2, b2, rfl, rfl, h0⟩
    have H2 := Lib.hid h0
    clear h0
    have G : Good l lo hi k2 k2 cr (b && (b2)) := fun lo0 hi0 du0 ev0 cr0 hv hl => by
      obtain ⟨v1, v2, v3, v4, v5⟩ := valid_of hv
      have hh := HP.out lo0 hi0 du0 ev0 cr0 hv hl
      have hc0 : cr0 = false → hi0 = lo0 := fun e => by subst e; simp [validB] at hv; omega
      by_cases hd : du0 = ev0
      · rw [if_pos hd] at hh
        simp at hh
        obtain ⟨e1, e2, e3, e4⟩ := H0.out lo0 hi0 cr0 (by omega) (by omega) (by omega) (by omega) hc0 hh.1
        obtain ⟨f1, f2⟩ := H2.out ev0 (by omega) (by omega) hh.2.2
        exact ⟨e1, e2, by rw [hd]; exact f1, f1, e3, by rw [e4, f2]; rfl⟩
      · rw [if_neg hd] at hh
        simp at hh
    cases b
    · have HOF := Lib.hid (good_no G (by simp))
      have HPF := Lib.hid (parsed_no HOF.out)
      clear G
      go_wp2
      have bF := Blk.alloc (Blk.set_ ((Blk.set_ ((Blk.set_ ((Blk.set_ ((Blk.set_ (bR2.out) 0 (.int .i64 0))) 1 (.int .i64 0))) 2 (.int .i64 0))) 3 (.int .i64 0))) 4 (.bool false)) (.cells #[.int .i64 lo, .int .i64 hi, .int .i64 k2, .int .i64 k2, .bool cr] 24)
      have cF := bF.cell
      refine bodyPost_ret (v := .tuple #[.agg #[.int .i64 0, .int .i64 0, .int .i64 0, .int .i64 0, .bool false], .bool false]) (by simp [results, Tryd.results19, go_sem, cF]) rfl ⟨by rw [HPF.out, HOF.out], bl_alloc (bl_set (bl_set (bl_set (bl_set (bl_set (HB2.out) (by dsimp only; omega) _) (by dsimp only; omega) _) (by dsimp only; omega) _) (by dsimp only; omega) _) (by dsimp only; omega) _) _⟩
    · cases b2
      · have HOF := Lib.hid (good_no G (by simp))
        have HPF := Lib.hid (parsed_no HOF.out)
        clear G
        go_wp2
        have bF := Blk.alloc (Blk.set_ ((Blk.set_ ((Blk.set_ ((Blk.set_ ((Blk.set_ (bR2.out) 0 (.int .i64 0))) 1 (.int .i64 0))) 2 (.int .i64 0))) 3 (.int .i64 0))) 4 (.bool false)) (.cells #[.int .i64 lo, .int .i64 hi, .int .i64 k2, .int .i64 k2, .bool cr] 24)
        have cF := bF.cell
        refine bodyPost_ret (v := .tuple #[.agg #[.int .i64 0, .int .i64 0, .int .i64 0, .int .i64 0, .bool false], .bool false]) (by simp [results, Tryd.results19, go_sem, cF]) rfl ⟨by rw [HPF.out, HOF.out], bl_alloc (bl_set (bl_set (bl_set (bl_set (bl_set (HB2.out) (by dsimp only; omega) _) (by dsimp only; omega) _) (by dsimp only; omega) _) (by dsimp only; omega) _) (by dsimp only; omega) _) _⟩
      · by_cases he : textL lo hi k2 k2 cr = l
        · obtain ⟨ho, hpp⟩ := good_yes G (by simp) he hl0
          have HO := Lib.hid ho
          have HPP := Lib.hid hpp
          have hq2 : (textL lo hi k2 k2 cr == l) = true := by simpa using he
          clear G ho hpp he
          go_wp2_with fail
          refine (sFormatTask_any _ _ _ _ _ _).mono ?_
          rintro e w4 ⟨rfl, hb⟩
          have HB4 := Lib.hid (bl_trans (bl_alloc HB2.out _) hb)
          have bR4 := Lib.hid ((Blk.alloc bR2.out _).below hb (by simp; omega))
          have s4 : w2.heap.size < w4.heap.size := by have := hb.size; simp at this; omega
          have bT4 := (Blk.new w2 24 #[.int .i64 lo, .int .i64 hi, .int .i64 k2, .int .i64 k2, .bool cr]).below hb (by simp)
          have cT := bT4.cell
          have fT := bT4.frozen
          clear cR fR bT4 hb
          have cR := bR4.out.cell
          have fR := bR4.out.frozen
          go_wp2
          have bF := (Blk.set_ ((Blk.set_ ((Blk.set_ ((Blk.set_ ((Blk.set_ (bR4.out) 0 (.int .i64 lo))) 1 (.int .i64 hi))) 2 (.int .i64 k2))) 3 (.int .i64 k2))) 4 (.bool cr))
          have cF := bF.cell
          refine bodyPost_ret (v := .tuple #[.agg #[.int .i64 lo, .int .i64 hi, .int .i64 k2, .int .i64 k2, .bool cr], .bool true]) (by simp [results, Tryd.results19, go_sem, cF]) rfl ⟨by rw [HPP.out, HO.out], bl_set (bl_set (bl_set (bl_set (bl_set (HB4.out) (by dsimp only; omega) _) (by dsimp only; omega) _) (by dsimp only; omega) _) (by dsimp only; omega) _) (by dsimp only; omega) _⟩
        · have ho := good_diff G he
          have HOF := Lib.hid ho
          have HPF := Lib.hid (parsed_no ho)
          have hq2 : (textL lo hi k2 k2 cr == l) = false := by simpa using he
          clear G ho he
          go_wp2_with fail
          refine (sFormatTask_any _ _ _ _ _ _).mono ?_
          rintro e w4 ⟨rfl, hb⟩
          have HB4 := Lib.hid (bl_trans (bl_alloc HB2.out _) hb)
          have bR4 := Lib.hid ((Blk.alloc bR2.out _).below hb (by simp; omega))
          have s4 : w2.heap.size < w4.heap.size := by have := hb.size; simp at this; omega
          clear cR fR hb
          have cR := bR4.out.cell
          have fR := bR4.out.frozen
          go_wp2
          have bF := (Blk.set_ ((Blk.set_ ((Blk.set_ ((Blk.set_ ((Blk.set_ (bR4.out) 0 (.int .i64 0))) 1 (.int .i64 0))) 2 (.int .i64 0))) 3 (.int .i64 0))) 4 (.bool false))
          have cF := bF.cell
          refine bodyPost_ret (v := .tuple #[.agg #[.int .i64 0, .int .i64 0, .int .i64 0, .int .i64 0, .bool false], .bool false]) (by simp [results, Tryd.results19, go_sem, cF]) rfl ⟨by rw [HPF.out, HOF.out], bl_set (bl_set (bl_set (bl_set (bl_set (HB4.out) (by dsimp only; omega) _) (by dsimp only; omega) _) (by dsimp only; omega) _) (by dsimp only; omega) _) (by dsimp only; omega) _⟩
  by_cases h5 : ps.length = 5
  · obtain ⟨p0, p1, p2, p3, p4, rfl⟩ : ∃ p0 p1 p2 p3 p4, ps = [p0, p1, p2, p3, p4] := by
      match ps, h5 with
      | [p0, p1, p2, p3, p4], _ => exact ⟨p0, p1, p2, p3, p4, rfl⟩
    clear h3 h5 hn hct
    have hl0 : l ≠ [] := fun e => by rw [e] at hq; simp [pieces] at hq
    have c0 := hcell 0 p0 rfl
    have c2 := hcell 2 p2 rfl
    have c4 := hcell 4 p4 rfl
    have l0 : p0.length ≤ 2000000 := Nat.le_trans (hln p0 (by simp)) (by omega)
    have l2 : p2.length ≤ 4000000 := Nat.le_trans (hln p2 (by simp)) (by omega)
    have l4 : p4.length ≤ 4000000 := Nat.le_trans (hln p4 (by simp)) (by omega)
    clear hcell hln hq
    go_wp2_with fail
    refine (l1Need_any _ p0 l0).mono ?_
    rintro e w2 ⟨lo, hi, cr, b, rfl, hb, h0⟩
    have H0 := Lib.hid h0
    have HB2 := Lib.hid (bl_trans HB1.out hb)
    have bR2 := Lib.hid (bR.out.below hb (by omega))
    have s2 : w.heap.size < w2.heap.size := bR2.out.lt
    have g2 : g < w2.heap.size := Nat.lt_of_lt_of_le hg hb.size
    have d2 := (hb.cell (p := ⟨g, 2, none⟩) hg).trans c2
    have d4 := (hb.cell (p := ⟨g, 4, none⟩) hg).trans c4
    clear hb h0 c0 c2 c4 bR
    have cR := bR2.out.cell
    have fR := bR2.out.frozen
    go_wp2_with fail
    refine (l11Num_any _ p2 l2).mono ?_
    rintro e w3 ⟨k2, b2, rfl, rfl, h0⟩
    have H2 := Lib.hid h0
    clear h0
    go_wp2_with fail
    refine (l11Num_any _ p4 l4).mono ?_
    rintro e w3 ⟨k4, b4, rfl, rfl, h0⟩
    have H4 := Lib.hid h0
    clear h0
    have G : Good l lo hi k4 k2 cr (b && (b2 && b4)) := fun lo0 hi0 du0 ev0 cr0 hv hl => by
      obtain ⟨v1, v2, v3, v4, v5⟩ := valid_of hv
      have hh := HP.out lo0 hi0 du0 ev0 cr0 hv hl
      have hc0 : cr0 = false → hi0 = lo0 := fun e => by subst e; simp [validB] at hv; omega
      by_cases hd : du0 = ev0
      · rw [if_pos hd] at hh
        simp at hh
      · rw [if_neg hd] at hh
        simp at hh
        obtain ⟨e1, e2, e3, e4⟩ := H0.out lo0 hi0 cr0 (by omega) (by omega) (by omega) (by omega) hc0 hh.1
        obtain ⟨f1, f2⟩ := H2.out ev0 (by omega) (by omega) hh.2.2.1
        obtain ⟨g1, g2⟩ := H4.out du0 (by omega) (by omega) hh.2.2.2.2
        exact ⟨e1, e2, g1, f1, e3, by rw [e4, f2, g2]; rfl⟩
    cases b
    · cases b2
      · have HOF := Lib.hid (good_no G (by simp))
        have HPF := Lib.hid (parsed_no HOF.out)
        clear G
        go_wp2
        have bF := Blk.alloc (Blk.set_ ((Blk.set_ ((Blk.set_ ((Blk.set_ ((Blk.set_ (bR2.out) 0 (.int .i64 0))) 1 (.int .i64 0))) 2 (.int .i64 0))) 3 (.int .i64 0))) 4 (.bool false)) (.cells #[.int .i64 lo, .int .i64 hi, .int .i64 k4, .int .i64 k2, .bool cr] 24)
        have cF := bF.cell
        refine bodyPost_ret (v := .tuple #[.agg #[.int .i64 0, .int .i64 0, .int .i64 0, .int .i64 0, .bool false], .bool false]) (by simp [results, Tryd.results19, go_sem, cF]) rfl ⟨by rw [HPF.out, HOF.out], bl_alloc (bl_set (bl_set (bl_set (bl_set (bl_set (HB2.out) (by dsimp only; omega) _) (by dsimp only; omega) _) (by dsimp only; omega) _) (by dsimp only; omega) _) (by dsimp only; omega) _) _⟩
      · have HOF := Lib.hid (good_no G (by simp))
        have HPF := Lib.hid (parsed_no HOF.out)
        clear G
        go_wp2
        have bF := Blk.alloc (Blk.set_ ((Blk.set_ ((Blk.set_ ((Blk.set_ ((Blk.set_ (bR2.out) 0 (.int .i64 0))) 1 (.int .i64 0))) 2 (.int .i64 0))) 3 (.int .i64 0))) 4 (.bool false)) (.cells #[.int .i64 lo, .int .i64 hi, .int .i64 k4, .int .i64 k2, .bool cr] 24)
        have cF := bF.cell
        refine bodyPost_ret (v := .tuple #[.agg #[.int .i64 0, .int .i64 0, .int .i64 0, .int .i64 0, .bool false], .bool false]) (by simp [results, Tryd.results19, go_sem, cF]) rfl ⟨by rw [HPF.out, HOF.out], bl_alloc (bl_set (bl_set (bl_set (bl_set (bl_set (HB2.out) (by dsimp only; omega) _) (by dsimp only; omega) _) (by dsimp only; omega) _) (by dsimp only; omega) _) (by dsimp only; omega) _) _⟩
    · cases b2
      · have HOF := Lib.hid (good_no G (by simp))
        have HPF := Lib.hid (parsed_no HOF.out)
        clear G
        go_wp2
        have bF := Blk.alloc (Blk.set_ ((Blk.set_ ((Blk.set_ ((Blk.set_ ((Blk.set_ (bR2.out) 0 (.int .i64 0))) 1 (.int .i64 0))) 2 (.int .i64 0))) 3 (.int .i64 0))) 4 (.bool false)) (.cells #[.int .i64 lo, .int .i64 hi, .int .i64 k4, .int .i64 k2, .bool cr] 24)
        have cF := bF.cell
        refine bodyPost_ret (v := .tuple #[.agg #[.int .i64 0, .int .i64 0, .int .i64 0, .int .i64 0, .bool false], .bool false]) (by simp [results, Tryd.results19, go_sem, cF]) rfl ⟨by rw [HPF.out, HOF.out], bl_alloc (bl_set (bl_set (bl_set (bl_set (bl_set (HB2.out) (by dsimp only; omega) _) (by dsimp only; omega) _) (by dsimp only; omega) _) (by dsimp only; omega) _) (by dsimp only; omega) _) _⟩
      · cases b4
        · have HOF := Lib.hid (good_no G (by simp))
          have HPF := Lib.hid (parsed_no HOF.out)
          clear G
          go_wp2
          have bF := Blk.alloc (Blk.set_ ((Blk.set_ ((Blk.set_ ((Blk.set_ ((Blk.set_ (bR2.out) 0 (.int .i64 0))) 1 (.int .i64 0))) 2 (.int .i64 0))) 3 (.int .i64 0))) 4 (.bool false)) (.cells #[.int .i64 lo, .int .i64 hi, .int .i64 k4, .int .i64 k2, .bool cr] 24)
          have cF := bF.cell
          refine bodyPost_ret (v := .tuple #[.agg #[.int .i64 0, .int .i64 0, .int .i64 0, .int .i64 0, .bool false], .bool false]) (by simp [results, Tryd.results19, go_sem, cF]) rfl ⟨by rw [HPF.out, HOF.out], bl_alloc (bl_set (bl_set (bl_set (bl_set (bl_set (HB2.out) (by dsimp only; omega) _) (by dsimp only; omega) _) (by dsimp only; omega) _) (by dsimp only; omega) _) (by dsimp only; omega) _) _⟩
        · by_cases he : textL lo hi k4 k2 cr = l
          · obtain ⟨ho, hpp⟩ := good_yes G (by simp) he hl0
            have HO := Lib.hid ho
            have HPP := Lib.hid hpp
            have hq2 : (textL lo hi k4 k2 cr == l) = true := by simpa using he
            clear G ho hpp he
            go_wp2_with fail
            refine (sFormatTask_any _ _ _ _ _ _).mono ?_
            rintro e w4 ⟨rfl, hb⟩
            have HB4 := Lib.hid (bl_trans (bl_alloc HB2.out _) hb)
            have bR4 := Lib.hid ((Blk.alloc bR2.out _).below hb (by simp; omega))
            have s4 : w2.heap.size < w4.heap.size := by have := hb.size; simp at this; omega
            have bT4 := (Blk.new w2 24 #[.int .i64 lo, .int .i64 hi, .int .i64 k4, .int .i64 k2, .bool cr]).below hb (by simp)
            have cT := bT4.cell
            have fT := bT4.frozen
            clear cR fR bT4 hb
            have cR := bR4.out.cell
            have fR := bR4.out.frozen
            go_wp2
            have bF := (Blk.set_ ((Blk.set_ ((Blk.set_ ((Blk.set_ ((Blk.set_ (bR4.out) 0 (.int .i64 lo))) 1 (.int .i64 hi))) 2 (.int .i64 k4))) 3 (.int .i64 k2))) 4 (.bool cr))
            have cF := bF.cell
            refine bodyPost_ret (v := .tuple #[.agg #[.int .i64 lo, .int .i64 hi, .int .i64 k4, .int .i64 k2, .bool cr], .bool true]) (by simp [results, Tryd.results19, go_sem, cF]) rfl ⟨by rw [HPP.out, HO.out], bl_set (bl_set (bl_set (bl_set (bl_set (HB4.out) (by dsimp only; omega) _) (by dsimp only; omega) _) (by dsimp only; omega) _) (by dsimp only; omega) _) (by dsimp only; omega) _⟩
          · have ho := good_diff G he
            have HOF := Lib.hid ho
            have HPF := Lib.hid (parsed_no ho)
            have hq2 : (textL lo hi k4 k2 cr == l) = false := by simpa using he
            clear G ho he
            go_wp2_with fail
            refine (sFormatTask_any _ _ _ _ _ _).mono ?_
            rintro e w4 ⟨rfl, hb⟩
            have HB4 := Lib.hid (bl_trans (bl_alloc HB2.out _) hb)
            have bR4 := Lib.hid ((Blk.alloc bR2.out _).below hb (by simp; omega))
            have s4 : w2.heap.size < w4.heap.size := by have := hb.size; simp at this; omega
            clear cR fR hb
            have cR := bR4.out.cell
            have fR := bR4.out.frozen
            go_wp2
            have bF := (Blk.set_ ((Blk.set_ ((Blk.set_ ((Blk.set_ ((Blk.set_ (bR4.out) 0 (.int .i64 0))) 1 (.int .i64 0))) 2 (.int .i64 0))) 3 (.int .i64 0))) 4 (.bool false))
            have cF := bF.cell
            refine bodyPost_ret (v := .tuple #[.agg #[.int .i64 0, .int .i64 0, .int .i64 0, .int .i64 0, .bool false], .bool false]) (by simp [results, Tryd.results19, go_sem, cF]) rfl ⟨by rw [HPF.out, HOF.out], bl_set (bl_set (bl_set (bl_set (bl_set (HB4.out) (by dsimp only; omega) _) (by dsimp only; omega) _) (by dsimp only; omega) _) (by dsimp only; omega) _) (by dsimp only; omega) _⟩
  have ho : okR l = false := by
    cases h : okR l
    · rfl
    · obtain ⟨lo0, hi0, du0, ev0, cr0, hv, hll, _⟩ := okR_spec h
      have hh := HP.out lo0 hi0 du0 ev0 cr0 hv hll
      by_cases hd : du0 = ev0
      · rw [if_pos hd] at hh; rw [hh] at h3; simp at h3
      · rw [if_neg hd] at hh; rw [hh] at h5; simp at h5
  have HOF := Lib.hid ho
  have HPF := Lib.hid (parsed_no ho)
  obtain ⟨m, hm⟩ : ∃ m, ps.length = m := ⟨_, rfl⟩
  rw [hm] at h3 h5 hct ⊢
  have z3 : ((m : Int) == 3) = false := beq_eq_false_iff_ne.2 (by omega)
  have z5 : ((m : Int) == 5) = false := beq_eq_false_iff_ne.2 (by omega)
  have y3 : ((m : Int) != 3) = true := by simp [bne, z3]
  have y5 : ((m : Int) != 5) = true := by simp [bne, z5]
  have cR := bR.out.cell
  have fR := bR.out.frozen
  clear ho hm h3 h5 hn hln hcell hq
  go_wp2
  have bF := (Blk.set_ ((Blk.set_ ((Blk.set_ ((Blk.set_ ((Blk.set_ (bR.out) 0 (.int .i64 0))) 1 (.int .i64 0))) 2 (.int .i64 0))) 3 (.int .i64 0))) 4 (.bool false))
  have cF := bF.cell
  refine bodyPost_ret (v := .tuple #[.agg #[.int .i64 0, .int .i64 0, .int .i64 0, .int .i64 0, .bool false], .bool false]) (by simp [results, Tryd.results19, go_sem, cF]) rfl ⟨by rw [HPF.out, HOF.out], bl_set (bl_set (bl_set (bl_set (bl_set (HB1.out) (by dsimp only; omega) _) (by dsimp only; omega) _) (by dsimp only; omega) _) (by dsimp only; omega) _) (by dsimp only; omega) _⟩

end Go.Proofs.YtnhffadebjibnabDoor
