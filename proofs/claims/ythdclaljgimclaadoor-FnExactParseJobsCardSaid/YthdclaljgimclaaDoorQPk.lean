/- Contract of the program's ParseJobs: a text is read as 'jsOf' and 'okJ' say; nothing that was there is written. -/
import Derived.Test.YthdclaljgimclaaDoorQPj
namespace Go.Proofs.YthdclaljgimclaaDoor
open Go.RowKit
set_option linter.unusedVariables false

set_option maxRecDepth 100000 in
set_option maxHeartbeats 4000000 in
theorem iParseJ_is (w : World) (l : List UInt8) (hl : l.length ≤ 1100000) (hv : Vars w) (ht : TG w) :
    Calls Tryd.prog 13 #[str l] w (JsP l w) := by
  obtain ⟨i0, hi, hz0, hz1, hz2⟩ := info_parts info_job
  have HV := Lib.hid hv
  have HTG := Lib.hid ht
  clear hv ht
  cases hle : l.isEmpty
  · have hne : l ≠ [] := by simpa using hle
    go_enter Tryd.func13, Tryd.ntmps13
    go_wp2_with fail
    refine (splitJ_any w l hl HV.out).mono ?_
    rintro e w1 ⟨v, rfl, ho, hb⟩
    have HB1 := Lib.hid hb
    have hsz1 : w.heap.size ≤ w1.heap.size := hb.size
    obtain ⟨g, c, rfl, hg, hgB, hcell⟩ := ho.at_ (psJ_ne l)
    have HC := Lib.hid hcell
    have hp61 := psJ_count l
    have HPL := Lib.hid (fun p (hp : p ∈ psJ l) => psJ_len hp)
    have HOK := Lib.hid (show okJ l = true → wrsB (jsOf l) = true ∧ psJ l = (jsOf l).map textJ ∧ textJs (jsOf l) = l ∧ jsOf l ≠ [] from fun h => ⟨(ok_parts' h hne).1, psJ_ok h hne, (ok_parts' h hne).2.2⟩)
    have HNE := Lib.hid hne
    clear hb ho hcell hne
    generalize psJ l = ps at HC hp61 HPL HOK ⊢
    obtain ⟨m, hm⟩ : ∃ m, ps.length = m := ⟨_, rfl⟩
    have HM := Lib.hid hm
    rw [hm] at hp61 ⊢
    clear hm
    go_wp2_with (at_make; refine wpList_make_own _ rfl _ _ 23 rfl w1.heap.size 35 i0 _ 3 Tryd.underlying23 hi hz0 hz1 .i64 .i64 _ m rfl rfl rfl (by rw [hz2]; omega) (by unfold maxLen; omega) (Nat.le_refl _) ?_; intro w2 hown0 hgrow0)
    have HO0 := Lib.hid (show OwnJ w2 w1.heap.size _ [] from hown0)
    have HB2 := Lib.hid (show Below w1.heap.size w1 w2 from (Below.refl w1.heap.size w1).grown hgrow0 (Nat.le_refl _) (fun k e => by cases e))
    clear hown0 hgrow0
    go_loopw [5, 17] (fun v i wr => ∃ (k : Nat) (js : List Jb), k ≤ m ∧ i = .int .i64 k ∧ Hid (js.length = k) ∧ Hid (okJ l = true → (jsOf l).take k = js) ∧ Hid (OwnJ wr w1.heap.size v js) ∧ Hid (Below w1.heap.size w1 wr)) (fun _ i _ => m - (intOf i).toNat)
    case atStart => exact ⟨0, [], Nat.zero_le _, rfl, Lib.hid rfl, Lib.hid (fun _ => rfl), HO0, HB2⟩
    case round =>
      obtain ⟨k, js, hk, rfl, HJL, HT, HO, HB⟩ := hrel
      have hszr : w1.heap.size ≤ wr.heap.size := HB.out.size
      have HBw := Lib.hid (bl_trans HB1.out HB.out)
      by_cases hlt : k < m
      · obtain ⟨p, hp⟩ : ∃ p, ps[k]? = some p := ⟨ps[k]'(by rw [HM.out]; exact hlt), List.getElem?_eq_getElem _⟩
        have c0 := (HB.out.cell (p := ⟨g, k, none⟩) hg).trans (HC.out k p hp)
        have hpl : p.length ≤ 1100000 := Nat.le_trans (HPL.out p (List.mem_of_getElem? hp)) hl
        have HP := Lib.hid (show okJ l = true → ∃ j0, (jsOf l)[k]? = some j0 ∧ wrB j0 = true ∧ p = textJ j0 from fun h => by
          obtain ⟨a1, a2, _⟩ := HOK.out h
          rw [a2, List.getElem?_map] at hp
          obtain ⟨j0, b1, b2⟩ := Option.map_eq_some_iff.1 hp
          exact ⟨j0, b1, (wrsB_iff.1 a1).2 j0 (List.mem_of_getElem? b1), b2.symm⟩)
        clear hp
        go_wp2_with fail
        refine (readJob_any _ p hpl (HV.out.below HBw.out)).mono ?_
        rintro e w3 ⟨rfl, hb⟩
        have HBw3 := Lib.hid (bl_trans HBw.out hb)
        have HB3 := Lib.hid (bl_trans HB.out hb)
        have HO3 := Lib.hid (HO.out.below hb)
        have hsz3 : w1.heap.size ≤ w3.heap.size := Nat.le_trans hszr hb.size
        have HT2 := Lib.hid (show okJ l = true → (jsOf l).take (k + 1) = js ++ [readJ p] from fun h => by
          obtain ⟨j0, a1, a2, a3⟩ := HP.out h
          rw [List.take_add_one, a1, HT.out h, a3, readJ_text a2]; rfl)
        clear hb c0
        generalize readJ p = j at HT2 ⊢
        obtain ⟨ta, tm, ne⟩ := j
        unfold Jb.val
        dsimp only
        have b1 : js.length + 1 ≤ maxLen := by have := HJL.out; unfold maxLen; omega
        have b2 : (js.length + 1) * 24 ≤ 140737488355328 := by have := HJL.out; omega
        go_wp2_with (at_builtin; refine wpList_append_own _ rfl (.tmp 21) (.tmp 24) 23 rfl w1.heap.size 35 i0 _ 3 24 Tryd.underlying23 hi hz0 hz1 hz2 rfl (by decide) _ js.length (js.flatMap Jb.cells) rfl (HO3.out.alloc _) ⟨w3.heap.size, 0, none⟩ 1 1 (Jb.cells ⟨ta, tm, ne⟩) rfl rfl (cell_new3 w3 ⟨ta, tm, ne⟩ _) (by intro u hu; exact jcells_one [⟨ta, tm, ne⟩] u (by simpa using hu)) b1 b2 (by simp; omega) ?_; intro v' w4 hown' hgrow _)
        have HO4 := Lib.hid (OwnJ.snoc hown')
        have HB4 := Lib.hid ((bl_alloc HB3.out _).grown hgrow (by simp; omega) (fun k e => (World.ownsRow.lt HO3.out k e).1))
        clear hown' hgrow b1 b2
        go_wp2
        go_roundw
        case rel => exact ⟨k + 1, js ++ [⟨ta, tm, ne⟩], by omega, by go_num, Lib.hid (by rw [List.length_append, HJL.out]; rfl), HT2, HO4, HB4⟩
        case measure => simp [intOf]; omega
      · obtain rfl : k = m := by omega
        obtain ⟨A3, c3, rfl⟩ := HO.out.form
        have hrd := HO.out.reads
        go_wp2_with fail
        refine (iFmtJ_is _ A3 js.length c3 js hrd.2 (HTG.out.below HBw.out)).mono ?_
        rintro e w3 ⟨rfl, hb⟩
        have HBw3 := Lib.hid (bl_trans HBw.out hb)
        have HO3 := Lib.hid (show OwnJ w3 w.heap.size _ js from (HO.out.below hb).less hsz1)
        clear hb hrd
        by_cases he : fmtJ js = l
        · obtain ⟨y1, y2⟩ := fmt_ne he HNE.out
          have HY1 := Lib.hid y1
          have HY2 := Lib.hid y2
          rw [he]
          clear y1 y2 he
          go_wp2
          go_ret2
          exact jsP_yes HY1.out HY2.out HO3.out HBw3.out
        · have HNO := Lib.hid (show okJ l = false by
            cases h : okJ l
            · rfl
            · exfalso
              obtain ⟨a1, a2, a3, _⟩ := HOK.out h
              have h1 := HT.out h
              rw [List.take_of_length_le (by have := congrArg List.length a2; rw [HM.out, List.length_map] at this; omega)] at h1
              refine he ?_
              rw [← h1]
              unfold fmtJ
              rw [a1]
              exact a3)
          have hq : (fmtJ js == l) = false := by simpa using he
          generalize fmtJ js = fl at *
          clear he
          go_wp2
          go_ret2
          exact jsP_nil HNO.out HBw3.out
  · have he : l = [] := by simpa using hle
    subst he
    go_enter Tryd.func13, Tryd.ntmps13
    go_wp2
    go_ret2
    exact jsP_yes okJ_nil.1 okJ_nil.2 (OwnJ.nil_ _ _) (Below.refl _ _)

end Go.Proofs.YthdclaljgimclaaDoor
