/- Contract of ParseSet of the program: a text is read as 'tsS' and 'okS' say; nothing that was there is written. -/
import Derived.Test.YtnhffadebjibnabDoorSetRead
import Derived.Test.YtnhffadebjibnabDoorOwn
import Derived.Test.YtnhffadebjibnabDoorShS
namespace Go.Proofs.YtnhffadebjibnabDoor
open Go.RowKit

theorem piece_len {p : List UInt8} : ∀ {ps : List (List UInt8)}, p ∈ ps → p.length ≤ (Lib.join ps semi).length
  | [], h => by cases h
  | [a], h => by
    rw [join_one]
    have : p = a := by simpa using h
    rw [this]; exact Nat.le_refl _
  | a :: b :: r, h => by
    rw [join_two]
    rcases List.mem_cons.1 h with rfl | h
    · simp <;> omega
    · have := piece_len h
      simp at this ⊢; omega
theorem psI_len {l p : List UInt8} (h : p ∈ psI l) : p.length ≤ l.length := by
  have := piece_len h
  unfold psI at this
  rw [join_split] at this
  exact this
theorem psI_count (l : List UInt8) : (psI l).length ≤ 6 := by
  have h := Lib.splitB_length_le ⟨semi.toArray⟩ 0 (min 6 (l.length + 1) - 1) ⟨l.toArray⟩
  have e := Lib.splitB_data ⟨semi.toArray⟩ 0 (min 6 (l.length + 1) - 1) ⟨l.toArray⟩
  have h2 := congrArg List.length e
  rw [List.length_map] at h2
  have h3 : (psI l).length = (Lib.splitB ⟨semi.toArray⟩ 0 (min 6 (l.length + 1) - 1) ⟨l.toArray⟩).length := h2.symm
  omega

theorem splitN_any (w : World) (l : List UInt8) (hl : l.length ≤ 2000000) (hv : Vars w) :
    Calls Tryd.prog 51 #[str l, .string ⟨#[59, 32]⟩, .int .i64 6] w fun e w' => ∃ v, e = .returned v ∧ OwnS w' w.heap.size v (psI l) ∧ Below w.heap.size w w' := by
  obtain ⟨m, hm⟩ := hv.ml
  have hsz : (⟨l.toArray⟩ : ByteArray).size = l.length := by simp [ByteArray.size]
  refine (Any.strings_SplitN { Tryd.laysM147 with } (by kernel_rfl) ⟨l.toArray⟩ ⟨#[59, 32]⟩ 6 m w (by rw [hsz]; omega) hm (by decide) (by decide) (by decide)).mono ?_
  rintro e w' ⟨rfl, rfl⟩
  have hmap := Lib.splitB_data ⟨#[59, 32]⟩ 0 (min 6 ((⟨l.toArray⟩ : ByteArray).size + 1) - 1) ⟨l.toArray⟩
  have hle := Lib.splitB_length_le ⟨#[59, 32]⟩ 0 (min 6 ((⟨l.toArray⟩ : ByteArray).size + 1) - 1) ⟨l.toArray⟩
  have hp : (Lib.splitB ⟨#[59, 32]⟩ 0 (min 6 ((⟨l.toArray⟩ : ByteArray).size + 1) - 1) ⟨l.toArray⟩).map (·.data.toList) = psI l := by rw [hmap, hsz]; rfl
  generalize Lib.splitB ⟨#[59, 32]⟩ 0 (min 6 ((⟨l.toArray⟩ : ByteArray).size + 1) - 1) ⟨l.toArray⟩ = ps at hp hle
  have hlen : (psI l).length = ps.length := by rw [← hp, List.length_map]
  have hstr : (psI l).map (fun x => (str x : Value)) = ps.map Value.string := by
    rw [← hp, List.map_map]
    exact List.map_congr_left (fun b _ => rfl)
  refine ⟨_, rfl, ?_, bl_alloc (Below.refl _ _) _⟩
  unfold OwnS
  rw [hlen, hstr]
  refine ⟨by simp, .inr ⟨w.heap.size, _, _, rfl, Nat.le_refl _, heap_alloc_new w _, by omega, by unfold maxLen; omega, ?_, ?_⟩⟩
  · rw [Lib.cellsOf_size (by omega)]; omega
  · simp [Lib.cellsOf]

/-- What parsing a set returns. -/
def SetP (l : List UInt8) (w : World) (e : Ending) (w' : World) : Prop :=
  ∃ (A : Option Addr) (c : Nat), e = .returned (.tuple #[.slice A (tsS l).length c, .bool (okS l)]) ∧ Own w' w.heap.size (.slice A (tsS l).length c) (tsS l) ∧ Below w.heap.size w w'
theorem setP_no {l : List UInt8} {w w' : World} (h : okS l = false) (hb : Below w.heap.size w w') : SetP l w (.returned (.tuple #[.slice none 0 0, .bool false])) w' := by
  refine ⟨none, 0, ?_, ?_, hb⟩
  · rw [tsS_no h, h]; rfl
  · rw [tsS_no h]; exact Own.nil_ _ _
theorem setP_yes {l : List UInt8} {ts : List Tk} {v : Value} {w w' : World} (h : okS l = true) (ht : tsS l = ts) (ho : Own w' w.heap.size v ts) (hb : Below w.heap.size w w') : SetP l w (.returned (.tuple #[v, .bool true])) w' := by
  subst ht
  obtain ⟨A, c, rfl⟩ := ho.form
  exact ⟨A, c, by rw [h], ho, hb⟩

set_option maxRecDepth 100000 in
set_option maxHeartbeats 2000000 in
theorem iParseSet_any (w : World) (l : List UInt8) (hl : l.length ≤ 2000000) (hv : Vars w) :
    Calls Tryd.prog 25 #[str l] w (SetP l w) := by
  obtain ⟨i0, hi, hz0, hz1, hz2⟩ := info_parts info_task
  have HV := Lib.hid hv
  clear hv
  cases hle : l.isEmpty
  · have hne : l ≠ [] := by simpa using hle
    go_enter Tryd.func25, Tryd.ntmps25
    go_wp2_with fail
    refine (splitN_any w l hl HV.out).mono ?_
    rintro e w1 ⟨v, rfl, ho, hb⟩
    have HB1 := Lib.hid hb
    have hsz1 : w.heap.size ≤ w1.heap.size := hb.size
    obtain ⟨g, c, rfl, hg, hgB, hcell⟩ := ho.at_ (split_ne _ _ _ _)
    have HC := Lib.hid hcell
    have hp6 := psI_count l
    have HPL := Lib.hid (fun p (hp : p ∈ psI l) => psI_len hp)
    have HNO := Lib.hid (show okS l = true → (∀ p ∈ psI l, okR p = true) ∧ (psI l).length ≤ 5 from fun h => (okS_spec h hne).2.2.2.2)
    have HYES := Lib.hid (show (∀ p ∈ psI l, okR p = true) → (psI l).length ≤ 5 → okS l = true ∧ tsS l = (psI l).map parsedT from fun h1 h2 => by
      have ho : okS l = true := by unfold okS; rw [List.all_eq_true.2 h1]; simp [h2]
      exact ⟨ho, (okS_spec ho hne).2.2.2.1⟩)
    clear hb ho hcell hne
    generalize psI l = ps at HC hp6 HPL HNO HYES ⊢
    obtain ⟨m, hm⟩ : ∃ m, ps.length = m := ⟨_, rfl⟩
    have HM := Lib.hid hm
    rw [hm] at hp6 ⊢
    clear hm
    by_cases h5 : 5 < m
    · have h5i : (5 : Int) < (m : Int) := by omega
      have hno : okS l = false := by
        cases h : okS l
        · rfl
        · have := (HNO.out h).2; rw [HM.out] at this; omega
      have HNN := Lib.hid hno
      clear hno
      go_wp2
      refine bodyPost_ret (v := .tuple #[.slice none 0 0, .bool false]) (by simp [results, Tryd.results25, go_sem]) rfl (setP_no HNN.out HB1.out)
    have h5i : ¬ (5 : Int) < (m : Int) := by omega
    go_wp2_with (at_make; refine wpList_make_own _ rfl _ _ 32 rfl w1.heap.size 24 i0 _ 5 Tryd.underlying32 hi hz0 hz1 .i64 .i64 _ m rfl rfl rfl (by rw [hz2]; omega) (by unfold maxLen; omega) (Nat.le_refl _) ?_; intro w2 hown0 hgrow0)
    have HO0 := Lib.hid (show Own w2 w1.heap.size _ [] from hown0)
    have HB2 := Lib.hid (show Below w1.heap.size w1 w2 from (Below.refl w1.heap.size w1).grown hgrow0 (Nat.le_refl _) (fun k e => by cases e))
    clear hown0 hgrow0
    go_loopw [5, 22] (fun v i wr => ∃ k : Nat, k ≤ m ∧ i = .int .i64 k ∧ Hid (∀ p ∈ ps.take k, okR p = true) ∧ Own wr w1.heap.size v ((ps.take k).map parsedT) ∧ Below w1.heap.size w1 wr) (fun _ i _ => m - (intOf i).toNat)
    case atStart => exact ⟨0, Nat.zero_le _, rfl, by show ∀ p ∈ ps.take 0, _; simp, HO0.out, HB2.out⟩
    case round =>
      obtain ⟨k, hk, rfl, hok, ho, hb⟩ := hrel
      have HO := Lib.hid ho
      have HB := Lib.hid hb
      have hszr : w1.heap.size ≤ wr.heap.size := hb.size
      have HBw := Lib.hid (bl_trans HB1.out hb)
      clear ho hb
      by_cases hlt : k < m
      · obtain ⟨p, hp⟩ : ∃ p, ps[k]? = some p := ⟨ps[k]'(by rw [HM.out]; exact hlt), List.getElem?_eq_getElem _⟩
        have c0 := (HB.out.cell (p := ⟨g, k, none⟩) hg).trans (HC.out k p hp)
        have hpl : p.length ≤ 2000000 := Nat.le_trans (HPL.out p (List.mem_of_getElem? hp)) hl
        have HT : Hid (ps.take (k + 1) = ps.take k ++ [p]) := by
          show _ = _
          obtain ⟨h1, h2⟩ := List.getElem?_eq_some_iff.1 hp
          rw [List.take_succ_eq_append_getElem h1, h2]
        have HPM := Lib.hid (List.mem_of_getElem? hp)
        obtain ⟨lo, hi', du, ev, cr, b, hpp, hpo, hi_, _⟩ := parsers p hpl
        have HPP := Lib.hid hpp
        have HPO := Lib.hid hpo
        have HI := Lib.hid hi_
        clear hp hpp hpo hi_
        go_wp2_with fail
        refine (HI.out _ (HV.out.below HBw.out)).mono ?_
        rintro e w3 ⟨rfl, hb⟩
        have HBw3 := Lib.hid (bl_trans HBw.out hb)
        have HB3 := Lib.hid (bl_trans HB.out hb)
        have HO3 := Lib.hid (HO.out.below hb)
        have hsz3 : w1.heap.size ≤ w3.heap.size := Nat.le_trans hszr hb.size
        clear hb HI c0
        cases b
        · have hno : okS l = false := by
            cases h : okS l
            · rfl
            · have := (HNO.out h).1 p HPM.out; rw [HPO.out] at this; cases this
          have HNN := Lib.hid hno
          clear hno
          go_wp2
          refine bodyPost_ret (v := .tuple #[.slice none 0 0, .bool false]) (by simp [results, Tryd.results25, go_sem]) rfl (setP_no HNN.out (bl_alloc HBw3.out _))
        · have hlen : ((ps.take k).map parsedT).length ≤ 5 := by rw [List.length_map, List.length_take]; omega
          have b1 : ((ps.take k).map parsedT).length + 1 ≤ maxLen := by unfold maxLen; omega
          have b2 : (((ps.take k).map parsedT).length + 1) * 40 ≤ 140737488355328 := by omega
          have HOK : Hid (∀ q ∈ ps.take (k + 1), okR q = true) := by
            show ∀ q ∈ ps.take (k + 1), okR q = true
            rw [HT.out]
            intro q hq
            rcases List.mem_append.1 hq with h | h
            · exact hok.out q h
            · have : q = p := by simpa using h
              rw [this]; exact HPO.out
          go_wp2_with (at_builtin; refine wpList_append_own _ rfl (.tmp 33) (.tmp 35) 32 rfl w1.heap.size 24 i0 _ 5 40 Tryd.underlying32 hi hz0 hz1 hz2 rfl (by decide) _ ((ps.take k).map parsedT).length (((ps.take k).map parsedT).flatMap Tk.cells) rfl ((HO3.out.alloc _).alloc _) ⟨w3.heap.size + 1, 0, none⟩ 1 1 (Tk.cells ⟨lo, hi', du, ev, cr⟩) rfl rfl (cell_new5_at _ ⟨lo, hi', du, ev, cr⟩ _ _ (by simp)) (by intro u hu; exact cells_one [⟨lo, hi', du, ev, cr⟩] u (by simpa using hu)) b1 b2 (by simp; omega) ?_; intro v' w4 hown' hgrow _)
          have HO4 := Lib.hid (Own.snoc hown')
          have HB4 := Lib.hid ((bl_alloc (bl_alloc HB3.out _) _).grown hgrow (by simp; omega) (fun k e => (World.ownsRow.lt HO3.out k e).1))
          clear hown' hgrow hlen b1 b2
          go_wp2
          go_roundw
          case rel => exact ⟨k + 1, by omega, by go_num, HOK, by rw [HT.out, List.map_append, List.map_cons, List.map_nil, HPP.out]; exact HO4.out, HB4.out⟩
          case measure => simp [intOf]; omega
      · obtain rfl : k = m := by omega
        have hall : ∀ p ∈ ps, okR p = true := by
          have := hok.out
          rw [List.take_of_length_le (by rw [HM.out]; omega)] at this
          exact this
        obtain ⟨y1, y2⟩ := HYES.out hall (by rw [HM.out]; omega)
        have HY1 := Lib.hid y1
        have HY2 := Lib.hid y2
        have HO' : Hid (Own wr w1.heap.size u5 (ps.map parsedT)) := by
          have := HO.out
          rw [List.take_of_length_le (by rw [HM.out]; omega)] at this
          exact this
        clear HO hall y1 y2
        obtain ⟨A3, c3, rfl⟩ := HO'.out.form
        go_wp2
        refine bodyPost_ret (v := .tuple #[.slice A3 (ps.map parsedT).length c3, .bool true]) (by simp [results, Tryd.results25, go_sem]) rfl (setP_yes HY1.out HY2.out (own_more HO'.out hsz1) HBw.out)
  · have he : l = [] := by simpa using hle
    subst he
    go_enter Tryd.func25, Tryd.ntmps25
    go_wp2
    refine bodyPost_ret (v := .tuple #[.slice none 0 0, .bool true]) (by simp [results, Tryd.results25, go_sem]) rfl (setP_yes okS_nil.1 okS_nil.2 (Own.nil_ _ _) (Below.refl _ _))

end Go.Proofs.YtnhffadebjibnabDoor
