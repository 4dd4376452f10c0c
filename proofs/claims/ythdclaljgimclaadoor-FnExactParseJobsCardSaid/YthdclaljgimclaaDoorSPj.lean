/- Contracts of the reference's reader of a job and of ParseJobs: a text is read as 'jsOf' and 'okJ' say; nothing that was there is written. -/
import Derived.Test.YthdclaljgimclaaDoorCutX
import Derived.Test.YthdclaljgimclaaDoorNumX
import Derived.Test.YthdclaljgimclaaDoorSFj
import Derived.Deep.RegionWith
import Derived.Maps.AppendAt
import Derived.RegionTactic
import Derived.ChangeAlike
namespace Go.Proofs.YthdclaljgimclaaDoor
open Go.RowKit
set_option linter.unusedVariables false

/-- What the reader of a job returns. -/
def ParsedS (l : List UInt8) (w : World) (e : Ending) (w' : World) : Prop :=
  ∃ (j : Jb) (b : Bool), e = .returned (.tuple #[j.val, .bool b]) ∧ Below w.heap.size w w' ∧ (b = true → wrB j = true) ∧ ∀ j0 : Jb, wrB j0 = true → l = textJ j0 → j = j0 ∧ b = true

set_option maxRecDepth 100000 in
set_option maxHeartbeats 4000000 in
theorem l6Parse_any (w : World) (l : List UInt8) (hl : l.length ≤ 1100000) :
    Calls Tryd.prog 40 #[str l] w (ParsedS l w) := by
  have hn := pieces_ne 64 l
  have hln := pieces_len 64 l
  have hct := pieces_count 64 l
  have hp := fun (j0 : Jb) (h0 : wrB j0 = true) (h : l = textJ j0) => (h ▸ (text_at h0).1 : pieces 64 l = [decJ j0.ta, decJ j0.tm ++ 58 :: decJ j0.ne])
  have hc := fun W => cut_at W l 64 64 rfl (by omega)
  generalize pieces 64 l = ps at hn hln hp hc hct
  have HP := Lib.hid hp
  have HC := Lib.hid hc
  clear hp hc
  go_enter Tryd.func40, Tryd.ntmps40
  go_wp2_with fail
  refine (HC.out _).mono ?_
  rintro e w1 ⟨v, rfl, ho, hb⟩
  have HB1 := Lib.hid (bl_trans (bl_alloc (Below.refl w.heap.size w) _) hb)
  have bR := Lib.hid ((Blk.new w 35 _).below hb (by simp))
  have s1 : w.heap.size < w1.heap.size := bR.out.lt
  obtain ⟨g, c, rfl, hg, hgB, hcell⟩ := ho.at_ hn
  clear hb ho HC
  by_cases h2 : ps.length = 2
  · obtain ⟨p0, p1, rfl⟩ : ∃ p0 p1, ps = [p0, p1] := by
      match ps, h2 with
      | [a, b], _ => exact ⟨a, b, rfl⟩
    have c0 := hcell 0 p0 rfl
    have c1 := hcell 1 p1 rfl
    have l0 : p0.length ≤ 1100000 := Nat.le_trans (hln p0 (by simp)) hl
    have l1 : p1.length ≤ 1100000 := Nat.le_trans (hln p1 (by simp)) hl
    have hn2 := pieces_ne 58 p1
    have hln2 := pieces_len 58 p1
    have hct2 := pieces_count 58 p1
    have hp2 := fun (j0 : Jb) (h0 : wrB j0 = true) (h : p1 = decJ j0.tm ++ 58 :: decJ j0.ne) => (h ▸ (text_at h0).2 : pieces 58 p1 = [decJ j0.tm, decJ j0.ne])
    have hc := fun W => cut_at W p1 58 58 rfl (by omega)
    generalize pieces 58 p1 = qs at hn2 hln2 hp2 hc hct2
    have HP2 := Lib.hid hp2
    have HC := Lib.hid hc
    clear hp2 hc hcell hln hct hn h2
    go_wp2_with fail
    refine (HC.out _).mono ?_
    rintro e w2 ⟨v, rfl, ho, hb⟩
    have HB2 := Lib.hid (bl_trans HB1.out hb)
    have bR2 := Lib.hid (bR.out.below hb (by omega))
    have s2 : w.heap.size < w2.heap.size := bR2.out.lt
    obtain ⟨g2, c2, rfl, hg2, hgB2, hcell2⟩ := ho.at_ hn2
    have c0' := (hb.cell (p := ⟨g, 0, none⟩) hg).trans c0
    clear hb ho HC c0 c1 HB1 bR
    by_cases h2 : qs.length = 2
    · obtain ⟨q0, q1, rfl⟩ : ∃ p0 p1, qs = [p0, p1] := by
        match qs, h2 with
        | [a, b], _ => exact ⟨a, b, rfl⟩
      have d0 := hcell2 0 q0 rfl
      have d1 := hcell2 1 q1 rfl
      have m0 : q0.length ≤ 1100000 := Nat.le_trans (hln2 q0 (by simp)) l1
      have m1 : q1.length ≤ 1100000 := Nat.le_trans (hln2 q1 (by simp)) l1
      clear hcell2 hln2 hct2 hn2 h2
      go_wp2_with fail
      refine (l11Num_any _ p0 (by omega)).mono ?_
      rintro e w3 ⟨k0, b0, rfl, rfl, h0⟩
      have H0 := Lib.hid h0
      clear h0
      go_wp2_with fail
      refine (l11Num_any _ q0 (by omega)).mono ?_
      rintro e w3 ⟨k1, b1, rfl, rfl, h0⟩
      have H1 := Lib.hid h0
      clear h0
      go_wp2_with fail
      refine (l11Num_any _ q1 (by omega)).mono ?_
      rintro e w3 ⟨k2, b2, rfl, rfl, h0⟩
      have H2 := Lib.hid h0
      clear h0
      have HNO := Lib.hid (show ∀ j0 : Jb, wrB j0 = true → l = textJ j0 → k0 = j0.ta ∧ k1 = j0.tm ∧ k2 = j0.ne ∧ b0 = true ∧ b1 = true ∧ b2 = true from fun j0 h1 h2 => by
        have e1 := HP.out j0 h1 h2
        have e2 := HP2.out j0 h1 (by simpa using (List.cons.inj (List.cons.inj e1).2).1)
        obtain ⟨⟨x1, x2⟩, ⟨y1, y2⟩, z1, z2⟩ := wr_nums h1
        obtain ⟨r1, r2⟩ := H0.out j0.ta x1 x2 (List.cons.inj e1).1
        obtain ⟨r3, r4⟩ := H1.out j0.tm y1 y2 (List.cons.inj e2).1
        obtain ⟨r5, r6⟩ := H2.out j0.ne z1 z2 (List.cons.inj (List.cons.inj e2).2).1
        exact ⟨r1, r3, r5, r2, r4, r6⟩)
      clear H0 H1 H2 HP HP2
      obtain ⟨b, hbj⟩ : ∃ b, wrB ⟨k0, k1, k2⟩ = b := ⟨_, rfl⟩
      have HX := Lib.hid (fun W : World => sText_is W ⟨k0, k1, k2⟩ b hbj)
      have HBJ := Lib.hid hbj
      clear hbj
      unfold Jb.val at HX
      dsimp only at HX
      have cR := bR2.out.cell
      have fR := bR2.out.frozen
      have cJ := (Blk.new w3 35 #[.int .i64 k0, .int .i64 k1, .int .i64 k2]).cell
      go_wp2_with fail
      cases b0
      · go_region
        go_wp2
        have cF := (Blk.set_ (Blk.set_ (Blk.set_ bR2.out 0 (.int .i64 k0)) 1 (.int .i64 k1)) 2 (.int .i64 k2)).cell
        have cF2 := ((Blk.set_ (Blk.set_ (Blk.set_ bR2.out 0 (.int .i64 k0)) 1 (.int .i64 k1)) 2 (.int .i64 k2)).alloc (.cells #[.int .i64 k0, .int .i64 k1, .int .i64 k2] 35)).cell
        refine bodyPost_ret (v := .tuple #[.agg #[.int .i64 k0, .int .i64 k1, .int .i64 k2], .bool false]) (by simp [results, Tryd.results40, go_sem, cF2]) rfl ⟨⟨k0, k1, k2⟩, false, rfl, ?_, (fun h => by cases h), fun j0 h1 h2 => absurd (HNO.out j0 h1 h2).2.2.2 (by simp)⟩
        repeat (first | exact HB2.out | refine bl_set ?_ (by dsimp only; omega) _ | refine bl_alloc ?_ _ | refine bl_drewN ?_ _ | refine Below.drew ?_)
      cases b1
      · go_region
        go_wp2
        have cF := (Blk.set_ (Blk.set_ (Blk.set_ bR2.out 0 (.int .i64 k0)) 1 (.int .i64 k1)) 2 (.int .i64 k2)).cell
        have cF2 := ((Blk.set_ (Blk.set_ (Blk.set_ bR2.out 0 (.int .i64 k0)) 1 (.int .i64 k1)) 2 (.int .i64 k2)).alloc (.cells #[.int .i64 k0, .int .i64 k1, .int .i64 k2] 35)).cell
        refine bodyPost_ret (v := .tuple #[.agg #[.int .i64 k0, .int .i64 k1, .int .i64 k2], .bool false]) (by simp [results, Tryd.results40, go_sem, cF2]) rfl ⟨⟨k0, k1, k2⟩, false, rfl, ?_, (fun h => by cases h), fun j0 h1 h2 => absurd (HNO.out j0 h1 h2).2.2.2 (by simp)⟩
        repeat (first | exact HB2.out | refine bl_set ?_ (by dsimp only; omega) _ | refine bl_alloc ?_ _ | refine bl_drewN ?_ _ | refine Below.drew ?_)
      cases b2
      · go_region
        go_wp2
        have cF := (Blk.set_ (Blk.set_ (Blk.set_ bR2.out 0 (.int .i64 k0)) 1 (.int .i64 k1)) 2 (.int .i64 k2)).cell
        have cF2 := ((Blk.set_ (Blk.set_ (Blk.set_ bR2.out 0 (.int .i64 k0)) 1 (.int .i64 k1)) 2 (.int .i64 k2)).alloc (.cells #[.int .i64 k0, .int .i64 k1, .int .i64 k2] 35)).cell
        refine bodyPost_ret (v := .tuple #[.agg #[.int .i64 k0, .int .i64 k1, .int .i64 k2], .bool false]) (by simp [results, Tryd.results40, go_sem, cF2]) rfl ⟨⟨k0, k1, k2⟩, false, rfl, ?_, (fun h => by cases h), fun j0 h1 h2 => absurd (HNO.out j0 h1 h2).2.2.2 (by simp)⟩
        repeat (first | exact HB2.out | refine bl_set ?_ (by dsimp only; omega) _ | refine bl_alloc ?_ _ | refine bl_drewN ?_ _ | refine Below.drew ?_)
      go_region_with (go_at_call 32; refine (HX.out _).mono ?_; rintro e w4 ⟨rfl, hb⟩; have bR4 := Lib.hid ((show Blk (w3.alloc (.cells #[.int .i64 k0, .int .i64 k1, .int .i64 k2] 35)) w.heap.size 35 _ from bR2.out.alloc _).below (⟨hb.os, hb.tape, hb.output, hb.size, hb.block⟩ : Below (w3.alloc (.cells #[.int .i64 k0, .int .i64 k1, .int .i64 k2] 35)).heap.size (w3.alloc (.cells #[.int .i64 k0, .int .i64 k1, .int .i64 k2] 35)) w4) (by simp; omega)); have HB4 := Lib.hid (bl_trans (bl_alloc HB2.out (.cells #[.int .i64 k0, .int .i64 k1, .int .i64 k2] 35)) (⟨hb.os, hb.tape, hb.output, hb.size, hb.block⟩ : Below (w3.alloc (.cells #[.int .i64 k0, .int .i64 k1, .int .i64 k2] 35)).heap.size (w3.alloc (.cells #[.int .i64 k0, .int .i64 k1, .int .i64 k2] 35)) w4)); have bJ4 := Lib.hid ((Blk.new w3 35 #[.int .i64 k0, .int .i64 k1, .int .i64 k2]).below (⟨hb.os, hb.tape, hb.output, hb.size, hb.block⟩ : Below (w3.alloc (.cells #[.int .i64 k0, .int .i64 k1, .int .i64 k2] 35)).heap.size (w3.alloc (.cells #[.int .i64 k0, .int .i64 k1, .int .i64 k2] 35)) w4) (by simp)); have cJ4 := bJ4.out.cell; have cR4 := bR4.out.cell; have fR4 := bR4.out.frozen; clear hb)
      all_goals
        go_wp2
        have cF := (Blk.set_ (Blk.set_ (Blk.set_ bR4.out 0 (.int .i64 k0)) 1 (.int .i64 k1)) 2 (.int .i64 k2)).cell
        refine bodyPost_ret (v := .tuple #[.agg #[.int .i64 k0, .int .i64 k1, .int .i64 k2], .bool b]) (by simp [results, Tryd.results40, go_sem, cF]) rfl ⟨⟨k0, k1, k2⟩, b, rfl, ?_, (fun h => by rw [HBJ.out]; exact h), fun j0 h1 h2 => by
          obtain ⟨y1, y2, y3, _⟩ := HNO.out j0 h1 h2
          have e : (⟨k0, k1, k2⟩ : Jb) = j0 := Jb.eq_of y1 y2 y3
          exact ⟨e, by rw [← HBJ.out, e]; exact h1⟩⟩
        repeat (first | exact HB4.out | refine bl_set ?_ (by dsimp only; omega) _ | refine bl_alloc ?_ _ | refine bl_drewN ?_ _ | refine Below.drew ?_)
    · have hz : ((qs.length : Int) == 2) = false := beq_eq_false_iff_ne.2 (by omega)
      have HV := Lib.hid (show ∀ j0 : Jb, wrB j0 = true → ¬ l = textJ j0 from fun j0 h1 e => by
        have e1 := HP.out j0 h1 e
        have := HP2.out j0 h1 (by simpa using (List.cons.inj (List.cons.inj e1).2).1)
        rw [this] at h2; exact h2 rfl)
      clear hcell2 hln2 h2
      have cR := bR2.out.cell
      have fR := bR2.out.frozen
      go_wp2
      have bF := Blk.set_ (Blk.set_ (Blk.set_ (bR2.out) 0 (.int .i64 0)) 1 (.int .i64 0)) 2 (.int .i64 0)
      have cF := bF.cell
      refine bodyPost_ret (v := .tuple #[.agg #[.int .i64 0, .int .i64 0, .int .i64 0], .bool false]) (by simp [results, Tryd.results40, go_sem, cF]) rfl ⟨⟨0, 0, 0⟩, false, rfl, ?_, (fun h => by cases h), fun j0 h1 h2 => absurd h2 (HV.out j0 h1)⟩
      repeat (first | exact HB2.out | refine bl_set ?_ (by dsimp only; omega) _)
  · have hz : ((ps.length : Int) == 2) = false := beq_eq_false_iff_ne.2 (by omega)
    have HV := Lib.hid (show ∀ j0 : Jb, wrB j0 = true → ¬ l = textJ j0 from fun j0 h1 e => by
      have := HP.out j0 h1 e
      rw [this] at h2; exact h2 rfl)
    clear hcell hln h2
    have cR := bR.out.cell
    have fR := bR.out.frozen
    go_wp2
    have bF := Blk.set_ (Blk.set_ (Blk.set_ (bR.out) 0 (.int .i64 0)) 1 (.int .i64 0)) 2 (.int .i64 0)
    have cF := bF.cell
    refine bodyPost_ret (v := .tuple #[.agg #[.int .i64 0, .int .i64 0, .int .i64 0], .bool false]) (by simp [results, Tryd.results40, go_sem, cF]) rfl ⟨⟨0, 0, 0⟩, false, rfl, ?_, (fun h => by cases h), fun j0 h1 h2 => absurd h2 (HV.out j0 h1)⟩
    repeat (first | exact HB1.out | refine bl_set ?_ (by dsimp only; omega) _)

end Go.Proofs.YthdclaljgimclaaDoor
