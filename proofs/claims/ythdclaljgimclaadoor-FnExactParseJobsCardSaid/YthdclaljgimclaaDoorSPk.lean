/- Contract of the reference's ParseJobs: a text is read as 'jsOf' and 'okJ' say; nothing that was there is written. -/
import Derived.Test.YthdclaljgimclaaDoorSPj
namespace Go.Proofs.YthdclaljgimclaaDoor
open Go.RowKit
set_option linter.unusedVariables false

/-- What ParseJobs returns. -/
def JsP (l : List UInt8) (w : World) (e : Ending) (w' : World) : Prop := JsRes2 (jsOf l) (okJ l) w e w'
theorem jsP_no {l : List UInt8} {w w' : World} (h : okJ l = false) (g : Nat) (hg : w'.heap[g]? = some (.cells #[] 35 (0, 0))) (hge : w.heap.size ≤ g) (hb : Below w.heap.size w w') : JsP l w (.returned (.tuple #[.slice (some ⟨g, 0, none⟩) 0 0, .bool false])) w' := by
  refine ⟨some ⟨g, 0, none⟩, 0, ?_, ?_, hb⟩
  · rw [js_no h, h]; rfl
  · rw [js_no h]
    exact ⟨rfl, .inr ⟨g, 0, #[], rfl, hge, hg, Nat.le_refl _, Nat.zero_le _, rfl, rfl⟩⟩
theorem jsP_nil {l : List UInt8} {w w' : World} (h : okJ l = false) (hb : Below w.heap.size w w') : JsP l w (.returned (.tuple #[.slice none 0 0, .bool false])) w' := by
  refine ⟨none, 0, ?_, ?_, hb⟩
  · rw [js_no h, h]; rfl
  · rw [js_no h]; exact OwnJ.nil_ _ _
theorem jsP_yes {l : List UInt8} {js : List Jb} {v : Value} {w w' : World} (h : okJ l = true) (hj : jsOf l = js) (ho : OwnJ w' w.heap.size v js) (hb : Below w.heap.size w w') : JsP l w (.returned (.tuple #[v, .bool true])) w' := by
  subst hj
  obtain ⟨A, c, rfl⟩ := ho.form
  exact ⟨A, c, by rw [h], ho, hb⟩
theorem okJ_nil : okJ [] = true ∧ jsOf [] = [] := ⟨rfl, rfl⟩
/-- What holds of a text that is one of jobs. -/
theorem ok_parts' {l : List UInt8} (h : okJ l = true) (hn : l ≠ []) : wrsB (jsOf l) = true ∧ pieces 32 l = (jsOf l).map textJ ∧ textJs (jsOf l) = l ∧ jsOf l ≠ [] := by
  obtain ⟨h1, h2⟩ := text_ok h
  have hj : jsOf l ≠ [] := fun e => by rw [e] at h2; exact hn h2.symm
  refine ⟨h1, ?_, h2, hj⟩
  have := pieces_text hj h1
  rwa [h2] at this
theorem fmt_ne {js : List Jb} {l : List UInt8} (h : fmtJ js = l) (hn : l ≠ []) : okJ l = true ∧ jsOf l = js := by
  unfold fmtJ at h
  cases hw : wrsB js
  · rw [hw] at h; exact absurd h.symm hn
  · rw [hw] at h; exact ok_of hw h
theorem new_at (w : World) (o : Obj) (g : Nat) (h : g = w.heap.size) : (w.alloc o).heap[g]? = some o := by subst h; exact heap_alloc_new _ _

set_option maxRecDepth 100000 in
set_option maxHeartbeats 4000000 in
theorem sParseJ_is (w : World) (l : List UInt8) (hl : l.length ≤ 1100000) :
    Calls Tryd.prog 16 #[str l] w (JsP l w) := by
  obtain ⟨i0, hi, hz0, hz1, hz2⟩ := info_parts info_job
  cases hle : l.isEmpty
  · have hne : l ≠ [] := by simpa using hle
    have hn := pieces_ne 32 l
    have hln := pieces_len 32 l
    have hct := pieces_count 32 l
    have hOK := Lib.hid (show okJ l = true → wrsB (jsOf l) = true ∧ pieces 32 l = (jsOf l).map textJ ∧ textJs (jsOf l) = l ∧ jsOf l ≠ [] from fun h => ok_parts' h hne)
    have hc := fun W => cut_at W l 32 32 rfl (by omega)
    generalize pieces 32 l = ps at hn hln hOK hc hct
    have HC := Lib.hid hc
    have HLN := Lib.hid hln
    have HNE := Lib.hid hne
    clear hc hln hne
    go_enter Tryd.func16, Tryd.ntmps16
    go_wp2_with fail
    refine (HC.out _).mono ?_
    rintro e w1 ⟨v, rfl, ho, hb⟩
    have HB1 := Lib.hid (bl_trans (bl_alloc (Below.refl w.heap.size w) _) hb)
    have bE := Lib.hid ((Blk.new w 35 #[]).below hb (by simp))
    have s1 : w.heap.size < w1.heap.size := bE.out.lt
    obtain ⟨g, c, rfl, hg, hgB, hcell⟩ := ho.at_ hn
    have HCE := Lib.hid hcell
    clear hb ho HC hcell
    obtain ⟨m, hm⟩ : ∃ m, ps.length = m := ⟨_, rfl⟩
    have HM := Lib.hid hm
    rw [hm] at hct ⊢
    have hm0 : 0 < m := by rw [← hm]; exact List.length_pos_iff.2 hn
    clear hm hn
    have hgE : g ≠ w.heap.size := by intro e; subst e; simp at hgB; omega
    by_cases h60 : 60 < m
    · have h60i : (60 : Int) < (m : Int) := by omega
      have HNO := Lib.hid (show okJ l = false by
        cases h : okJ l
        · rfl
        · obtain ⟨a1, a2, _⟩ := hOK.out h
          have := (wrsB_iff.1 a1).1
          have := congrArg List.length a2
          rw [HM.out, List.length_map] at this
          omega)
      go_wp2
      go_ret2
      exact jsP_no HNO.out _ bE.out (Nat.le_refl _) HB1.out
    have h60i : ¬ (60 : Int) < (m : Int) := by omega
    go_wp2
    go_loopw [4, 6] (fun v i wr => ∃ (k : Nat) (js : List Jb), k ≤ m ∧ i = .int .i64 k ∧ Hid (js.length = k) ∧ Hid (∀ j ∈ js, wrB j = true) ∧ Hid (okJ l = true → (jsOf l).take k = js) ∧ Hid (OwnJ wr w.heap.size v js) ∧ Hid (v.ownBlock ≠ some g) ∧ Hid (∀ j x, ps[j]? = some x → wr.cell? ⟨g, j, none⟩ = some (str x)) ∧ g < wr.heap.size ∧ Hid (Below w.heap.size w wr)) (fun _ i _ => m - (intOf i).toNat)
    case atStart => exact ⟨0, [], Nat.zero_le _, rfl, Lib.hid rfl, Lib.hid (by simp), Lib.hid (fun _ => rfl), Lib.hid ⟨rfl, .inr ⟨w.heap.size, 0, #[], rfl, Nat.le_refl _, bE.out, Nat.le_refl _, Nat.zero_le _, rfl, rfl⟩⟩, Lib.hid (by intro e; injection e with e; exact hgE e.symm), HCE, hg, HB1⟩
    case round =>
      obtain ⟨k, js, hk, rfl, HJL, HW, HT, HO, HG, HCR, hgr, HB⟩ := hrel
      have hsz : w.heap.size ≤ wr.heap.size := HB.out.size
      by_cases hlt : k < m
      · obtain ⟨p, hp⟩ : ∃ p, ps[k]? = some p := ⟨ps[k]'(by rw [HM.out]; exact hlt), List.getElem?_eq_getElem _⟩
        have c0 := HCR.out k p hp
        have hpl : p.length ≤ 1100000 := Nat.le_trans (HLN.out p (List.mem_of_getElem? hp)) hl
        have HP := Lib.hid (show okJ l = true → ∃ j0, (jsOf l)[k]? = some j0 ∧ wrB j0 = true ∧ p = textJ j0 from fun h => by
          obtain ⟨a1, a2, _⟩ := hOK.out h
          rw [a2, List.getElem?_map] at hp
          obtain ⟨j0, b1, b2⟩ := Option.map_eq_some_iff.1 hp
          exact ⟨j0, b1, (wrsB_iff.1 a1).2 j0 (List.mem_of_getElem? b1), b2.symm⟩)
        clear hp
        go_wp2_with fail
        refine (l6Parse_any _ p hpl).mono ?_
        rintro e w3 ⟨⟨ta, tm, ne⟩, b, rfl, hb, hbw, hbj⟩
        have HB3 := Lib.hid (bl_trans HB.out hb)
        have HO3 := Lib.hid (HO.out.below hb)
        have hg3 : g < w3.heap.size := Nat.lt_of_lt_of_le hgr hb.size
        have HC3 := Lib.hid (show ∀ j x, ps[j]? = some x → w3.cell? ⟨g, j, none⟩ = some (str x) from fun j x hj => (hb.cell (p := ⟨g, j, none⟩) hgr).trans (HCR.out j x hj))
        have hsz3 : w.heap.size ≤ w3.heap.size := HB3.out.size
        have HBW := Lib.hid hbw
        have HBJ := Lib.hid hbj
        clear hb hbw hbj c0
        unfold Jb.val
        dsimp only
        cases b
        · have HNO := Lib.hid (show okJ l = false by
            cases h : okJ l
            · rfl
            · obtain ⟨j0, _, a2, a3⟩ := HP.out h
              have := (HBJ.out j0 a2 a3).2
              cases this)
          go_wp2
          go_ret2
          exact jsP_no HNO.out _ (new_at _ _ _ (by simp)) (by have := HB3.out.size; simp; omega) (bl_alloc (bl_alloc HB3.out _) _)
        · have HW2 := Lib.hid (show ∀ j ∈ js ++ [⟨ta, tm, ne⟩], wrB j = true from fun j hj => by
            rcases List.mem_append.1 hj with h | h
            · exact HW.out j h
            · rw [List.mem_singleton.1 h]; exact HBW.out rfl)
          have HT2 := Lib.hid (show okJ l = true → (jsOf l).take (k + 1) = js ++ [⟨ta, tm, ne⟩] from fun h => by
            obtain ⟨j0, a1, a2, a3⟩ := HP.out h
            rw [List.take_add_one, a1, HT.out h, (HBJ.out j0 a2 a3).1]; rfl)
          have b1 : js.length + 1 ≤ maxLen := by have := HJL.out; unfold maxLen; omega
          have b2 : (js.length + 1) * 24 ≤ 140737488355328 := by have := HJL.out; omega
          have cJ := (Blk.new w3 35 #[.int .i64 ta, .int .i64 tm, .int .i64 ne]).cell
          go_wp2_with (
            at_builtin
            refine wpList_append_own_at _ rfl (.tmp 36) (.tmp 38) 23 rfl w.heap.size 35 i0 _ 3 24 Tryd.underlying23 hi hz0 hz1 hz2 rfl (by decide) u4 js.length (js.flatMap Jb.cells) rfl ((HO3.out.alloc _).alloc _) ⟨w3.heap.size + 1, 0, none⟩ 1 1 (Jb.cells ⟨ta, tm, ne⟩) rfl rfl (by have h := cell_new3 (w3.alloc (.cells #[.int .i64 ta, .int .i64 tm, .int .i64 ne] 35)) ⟨ta, tm, ne⟩ 35; simpa using h) (by intro u hu; exact jcells_one [⟨ta, tm, ne⟩] u (by simpa using hu)) b1 b2 (by simp; omega) ?_
            intro v' w4 hown' hgrow _ hat
            have HO4 := Lib.hid (OwnJ.snoc hown')
            have HB4 := Lib.hid ((bl_alloc (bl_alloc HB3.out _) _).grown hgrow (by simp; omega) (fun k e => (World.ownsRow.lt HO3.out k e).1))
            have hg4 : g < w4.heap.size := by have := hgrow.size; simp at this; omega
            have HC4 := Lib.hid (show ∀ j x, ps[j]? = some x → w4.cell? ⟨g, j, none⟩ = some (str x) from fun j x hj => hgrow.cell (by rw [World.cell?_alloc_lt _ _ _ (by simp; omega), World.cell?_alloc_lt _ _ _ (by simp; omega)]; exact HC3.out j x hj) (fun e => HG.out e.symm))
            have HG4 := Lib.hid (show v'.ownBlock ≠ some g from fun e => by
              rcases hat with h | h
              · exact HG.out (h.symm.trans e)
              · have e2 := h.symm.trans e
                injection e2 with e2
                simp at e2
                omega)
            clear hown' hgrow hat b1 b2)
          go_wp2
          go_roundw
          case rel => exact ⟨k + 1, js ++ [⟨ta, tm, ne⟩], by omega, by go_num, Lib.hid (by rw [List.length_append, HJL.out]; rfl), HW2, HT2, HO4, HG4, HC4, hg4, HB4⟩
          case measure => simp [intOf]; omega
      · obtain rfl : k = m := by omega
        have hki : ¬ (k : Int) < (k : Int) := by omega
        obtain ⟨A3, c3, rfl⟩ := HO.out.form
        have hrd := HO.out.reads
        go_wp2_with fail
        refine (sFmtJ_is _ A3 js.length c3 js hrd.2).mono ?_
        rintro e w3 ⟨rfl, hb⟩
        have HB3 := Lib.hid (bl_trans HB.out hb)
        have HO3 := Lib.hid (HO.out.below hb)
        clear hb hrd
        by_cases he : fmtJ js = l
        · obtain ⟨y1, y2⟩ := fmt_ne he HNE.out
          have HY1 := Lib.hid y1
          have HY2 := Lib.hid y2
          rw [he]
          clear y1 y2 he
          go_wp2
          go_ret2
          exact jsP_yes HY1.out HY2.out HO3.out HB3.out
        · have HNO := Lib.hid (show okJ l = false by
            cases h : okJ l
            · rfl
            · exfalso
              obtain ⟨a1, a2, a3, _⟩ := hOK.out h
              have h1 := HT.out h
              rw [List.take_of_length_le (by have := congrArg List.length a2; rw [HM.out, List.length_map] at this; omega)] at h1
              refine he ?_
              rw [← h1]
              unfold fmtJ
              rw [a1]
              exact a3)
          have hq : (fmtJ js == l) = false := by simpa using he
          generalize fmtJ js = fl at *
          clear he
          go_wp2
          go_ret2
          exact jsP_no HNO.out _ (new_at _ _ _ (by simp)) (by have := HB3.out.size; omega) (bl_alloc HB3.out _)
  · have he : l = [] := by simpa using hle
    subst he
    go_enter Tryd.func16, Tryd.ntmps16
    go_wp2
    go_ret2
    exact jsP_yes okJ_nil.1 okJ_nil.2 (OwnJ.empty w) (bl_alloc (Below.refl _ _) _)

end Go.Proofs.YthdclaljgimclaaDoor
