/- The walk of the law on lists of many tasks. -/
import Derived.Test.YtnhffadebjibnaaLawCrit
import Derived.Laws.AppendOwnNone
namespace Go.Proofs.Ytnhffadebjibnaa
open Go.RowKit

theorem own_cases {w : World} {B c : Nat} {A : Option Addr} {ts : List Tk} (h : Own w B (.slice A ts.length c) ts) : (A = none ∧ ts = [] ∧ c = 0) ∨ ∃ g, A = some ⟨g, 0, none⟩ := by
  rcases h.2 with ⟨e, h0⟩ | ⟨g, cap, cur, e, _⟩
  · injection e with e1 e2 e3
    exact .inl ⟨e1, List.eq_nil_of_length_eq_zero h0, e3⟩
  · injection e with e1 e2 e3
    exact .inr ⟨g, e1⟩
theorem own_at {w : World} {B c g : Nat} {ts : List Tk} (h : Own w B (.slice (some ⟨g, 0, none⟩) ts.length c) ts) : ∀ j u, (ts.flatMap Tk.cells)[j]? = some u → w.cell? ((⟨g, 0, none⟩ : Addr).add j) = some u :=
  h.cells (g := g) rfl
theorem own_cap' {w : World} {B c : Nat} {A : Option Addr} {ts : List Tk} (h : Own w B (.slice A ts.length c) ts) (hl : 1 ≤ ts.length) : ∃ g, A = some ⟨g, 0, none⟩ ∧ ts.length ≤ c ∧ c ≤ maxLen := by
  rcases h.2 with ⟨e, h0⟩ | ⟨g, cap, cur, e, _, _, h1, h2, _⟩
  · omega
  · injection e with e1 e2 e3
    subst e3
    exact ⟨g, e1, h1, h2⟩
theorem take_five {w : World} {B c g : Nat} {ts : List Tk} (h : Own w B (.slice (some ⟨g, 0, none⟩) ts.length c) ts) (hl : 5 ≤ ts.length) : Tks w w.heap.size (some ⟨g, 0, none⟩) 5 (ts.take 5) := by
  refine ⟨by simp; omega, fun i t ht => ?_⟩
  have hi := (List.getElem?_eq_some_iff.1 ht).1
  rw [List.length_take] at hi
  rw [List.getElem?_take] at ht
  exact h.reads.2.at_ i t (by rw [if_pos (by omega)] at ht; exact ht)


set_option maxHeartbeats 2000000 in
theorem fnSetMany_walk (w : World) (A : Option Addr) (n c : Nat) (f : Nat → Int) (h : Code w w.heap.size A n c f) :
    Calls Try.prog 8 #[.slice A n c] w fun e w' => e = .returned (.bool true) ∧ Below w.heap.size w w' := by
  have H := Lib.hid h
  have hle := h.le
  have hmax := h.max
  unfold maxLen at hmax
  clear h
  by_cases hn : 1048576 < n
  · go_enter Try.func8, Try.ntmps8
    go_wp2
    go_ret
    exact ⟨rfl, Below.refl _ _⟩
  go_enter Try.func8, Try.ntmps8
  go_wp2_with fail
  refine (dDrawSetValid_any _ A n c f H.out).mono ?_
  rintro e w1 ⟨Ats, cts, ts, rfl, hlts, hgts, ho, hb⟩
  have HGts := Lib.hid hgts
  have HOts1 := Lib.hid ho
  have HB1 := Lib.hid hb
  clear ho hb hgts H
  go_wp2_with fail
  refine (iSetValid_any w1 Ats _ cts ts HOts1.out.reads.2 (by omega)).mono ?_
  rintro e w2 ⟨rfl, hb⟩
  have HOts2 := Lib.hid (HOts1.out.below hb)
  have HB2 := Lib.hid (bl_trans HB1.out hb)
  clear hb HOts1 HB1
  go_wp2_with fail
  refine (sSetValid_any w2 Ats _ cts ts HOts2.out.reads.2 (by omega)).mono ?_
  rintro e w3 ⟨rfl, hb⟩
  have HOts3 := Lib.hid (HOts2.out.below hb)
  have HB3 := Lib.hid (bl_trans HB2.out hb)
  clear hb HOts2 HB2
  cases hs : setB ts
  ·
    go_wp2_with fail
    refine (sSetValid_any w3 Ats _ cts ts HOts3.out.reads.2 (by omega)).mono ?_
    rintro e w4 ⟨rfl, hb⟩
    have HOts4 := Lib.hid (HOts3.out.below hb)
    have HB4 := Lib.hid (bl_trans HB3.out hb)
    clear hb HOts3 HB3
    go_wp2
    go_ret
    exact ⟨rfl, HB4.out⟩
  obtain ⟨i0, hi, hz0, hz1, hz2⟩ := info_parts info_task
  have hlt5 := setB_len hs
  have HS := Lib.hid hs
  have hszk : w.heap.size ≤ w3.heap.size := HB3.out.size
  have b1 : 0 + ts.length ≤ maxLen := by unfold maxLen; omega
  have b2 : (0 + ts.length) * 40 ≤ 140737488355328 := by omega
  rcases own_cases HOts3.out with ⟨rfl, rfl, rfl⟩ | ⟨gg, rfl⟩
  · go_wp2_with (at_builtin; refine wpList_append_own_none rfl (.tmp 25) (.tmp 26) 23 rfl w.heap.size 29 i0 5 Try.underlying23 hi _ 0 [] rfl (own_more (Own.empty w3) hszk) rfl ?_)
    have HX := Lib.hid (own_more (Own.empty w3) hszk)
    have HXB := Lib.hid (bl_alloc HB3.out (.cells #[] 29))
    have HOK : Hid (∀ t ∈ ([] : List Tk), t.ok = true) := fun t ht => by simp at ht
    clear hs
    go_wp2
    go_loopw [5] (fun v wr => ∃ us : List Tk, us.length ≤ 6 ∧ Hid (∀ t ∈ us, t.ok = true) ∧ Own wr w.heap.size v us ∧ Below w.heap.size w wr) (fun v _ => 7 - sliceLen v)
    case atStart => exact ⟨[], by first | omega | simp, HOK, HX.out, HXB.out⟩
    case round =>
      obtain ⟨us, hu, hok, ho, hb⟩ := hrel
      obtain ⟨A5, c5, rfl⟩ := ho.form
      have HO := Lib.hid ho
      have HB := Lib.hid hb
      have hszr : w.heap.size ≤ wr.heap.size := hb.size
      clear ho hb
      by_cases h6 : us.length ≤ 5
      · have d1 : us.length + 1 ≤ maxLen := by unfold maxLen; omega
        have d2 : (us.length + 1) * 40 ≤ 140737488355328 := by omega
        go_wp2_with (at_builtin; refine wpList_append_own _ rfl (.tmp 31) (.tmp 33) 23 rfl w.heap.size 29 i0 _ 5 40 Try.underlying23 hi hz0 hz1 hz2 rfl (by decide) _ us.length (us.flatMap Tk.cells) rfl (HO.out.alloc _) ⟨wr.heap.size, 0, none⟩ 1 1 (Tk.cells ⟨1, 1, 2, 2, false⟩) rfl rfl (cell_new5 _ ⟨1, 1, 2, 2, false⟩ _) (by intro u hu; exact cells_one [⟨1, 1, 2, 2, false⟩] u (by simpa using hu)) d1 d2 (by simp; omega) ?_; intro v9 w9 hown9 hgrow9 _)
        have HO9 := Lib.hid (Own.snoc hown9)
        have HB9 := Lib.hid ((bl_alloc HB.out _).grown hgrow9 (by simp; omega) (fun k e => (World.ownsRow.lt HO.out k e).1))
        have HK9 : Hid (∀ t ∈ us ++ [⟨1, 1, 2, 2, false⟩], t.ok = true) := fun t ht => by
          rcases List.mem_append.1 ht with h | h
          · exact hok.out t h
          · simp at h; subst h; rfl
        have hl9 : sliceLen v9 = us.length + 1 := by obtain ⟨_, _, e⟩ := HO9.out.form; rw [e]; simp [sliceLen]
        have HL9 := Lib.hid hl9
        clear hown9 hgrow9 hl9
        go_wp2
        go_roundw
        case rel => exact ⟨us ++ [⟨1, 1, 2, 2, false⟩], by simp; omega, HK9, HO9.out, HB9.out⟩
        case measure => have := HL9.out; simp [sliceLen] at this ⊢; omega
      · have hsu : setB us = false := by unfold setB; simp; omega
        have hst : setB (us.take 5) = true := by
          unfold setB
          simp
          exact ⟨by omega, fun t ht => hok.out t (List.mem_of_mem_take ht)⟩
        obtain ⟨g5, rfl, hc5, hc6⟩ := own_cap' HO.out (by omega)
        unfold maxLen at hc6
        go_wp2_with fail
        refine (iSetValid_any wr _ _ _ us HO.out.reads.2 (by omega)).mono ?_
        rintro e w10 ⟨rfl, hb⟩
        have HB10 := Lib.hid (bl_trans HB.out hb)
        have HO10 := Lib.hid (HO.out.below hb)
        clear hb
        go_wp2_with fail
        refine (iSetValid_any w10 _ _ _ (us.take 5) (take_five HO10.out (by omega)) (by omega)).mono ?_
        rintro e w11 ⟨rfl, hb⟩
        have HB11 := Lib.hid (bl_trans HB10.out hb)
        clear hb
        go_wp2
        go_ret
        exact ⟨rfl, HB11.out⟩
  · go_wp2_with (at_builtin; refine wpList_append_own _ rfl (.tmp 25) (.tmp 26) 23 rfl w.heap.size 29 i0 _ 5 40 Try.underlying23 hi hz0 hz1 hz2 rfl (by decide) _ 0 [] rfl (own_more (Own.empty w3) hszk) ⟨gg, 0, none⟩ ts.length cts (ts.flatMap Tk.cells) rfl (cells_length ts) (own_at (HOts3.out.alloc _)) (cells_one ts) b1 b2 (by simp; omega) ?_; intro v' w8 hown' hgrow _)
    have HX : Hid (Own w8 w.heap.size v' ts) := by
      show w8.ownsRow _ _ _ _ _ _
      simpa using hown'
    have HXB := Lib.hid ((bl_alloc HB3.out (.cells #[] 29)).grown hgrow (by simp; omega) (fun k e => by have e' : some w3.heap.size = some k := e; injection e' with e'; omega))
    have HOK : Hid (∀ t ∈ ts, t.ok = true) := by
      have h := HS.out
      unfold setB at h
      simp at h
      exact h.2
    clear hs hown' hgrow
    go_wp2
    go_loopw [5] (fun v wr => ∃ us : List Tk, us.length ≤ 6 ∧ Hid (∀ t ∈ us, t.ok = true) ∧ Own wr w.heap.size v us ∧ Below w.heap.size w wr) (fun v _ => 7 - sliceLen v)
    case atStart => exact ⟨ts, by first | omega | simp, HOK, HX.out, HXB.out⟩
    case round =>
      obtain ⟨us, hu, hok, ho, hb⟩ := hrel
      obtain ⟨A5, c5, rfl⟩ := ho.form
      have HO := Lib.hid ho
      have HB := Lib.hid hb
      have hszr : w.heap.size ≤ wr.heap.size := hb.size
      clear ho hb
      by_cases h6 : us.length ≤ 5
      · have d1 : us.length + 1 ≤ maxLen := by unfold maxLen; omega
        have d2 : (us.length + 1) * 40 ≤ 140737488355328 := by omega
        go_wp2_with (at_builtin; refine wpList_append_own _ rfl (.tmp 31) (.tmp 33) 23 rfl w.heap.size 29 i0 _ 5 40 Try.underlying23 hi hz0 hz1 hz2 rfl (by decide) _ us.length (us.flatMap Tk.cells) rfl (HO.out.alloc _) ⟨wr.heap.size, 0, none⟩ 1 1 (Tk.cells ⟨1, 1, 2, 2, false⟩) rfl rfl (cell_new5 _ ⟨1, 1, 2, 2, false⟩ _) (by intro u hu; exact cells_one [⟨1, 1, 2, 2, false⟩] u (by simpa using hu)) d1 d2 (by simp; omega) ?_; intro v9 w9 hown9 hgrow9 _)
        have HO9 := Lib.hid (Own.snoc hown9)
        have HB9 := Lib.hid ((bl_alloc HB.out _).grown hgrow9 (by simp; omega) (fun k e => (World.ownsRow.lt HO.out k e).1))
        have HK9 : Hid (∀ t ∈ us ++ [⟨1, 1, 2, 2, false⟩], t.ok = true) := fun t ht => by
          rcases List.mem_append.1 ht with h | h
          · exact hok.out t h
          · simp at h; subst h; rfl
        have hl9 : sliceLen v9 = us.length + 1 := by obtain ⟨_, _, e⟩ := HO9.out.form; rw [e]; simp [sliceLen]
        have HL9 := Lib.hid hl9
        clear hown9 hgrow9 hl9
        go_wp2
        go_roundw
        case rel => exact ⟨us ++ [⟨1, 1, 2, 2, false⟩], by simp; omega, HK9, HO9.out, HB9.out⟩
        case measure => have := HL9.out; simp [sliceLen] at this ⊢; omega
      · have hsu : setB us = false := by unfold setB; simp; omega
        have hst : setB (us.take 5) = true := by
          unfold setB
          simp
          exact ⟨by omega, fun t ht => hok.out t (List.mem_of_mem_take ht)⟩
        obtain ⟨g5, rfl, hc5, hc6⟩ := own_cap' HO.out (by omega)
        unfold maxLen at hc6
        go_wp2_with fail
        refine (iSetValid_any wr _ _ _ us HO.out.reads.2 (by omega)).mono ?_
        rintro e w10 ⟨rfl, hb⟩
        have HB10 := Lib.hid (bl_trans HB.out hb)
        have HO10 := Lib.hid (HO.out.below hb)
        clear hb
        go_wp2_with fail
        refine (iSetValid_any w10 _ _ _ (us.take 5) (take_five HO10.out (by omega)) (by omega)).mono ?_
        rintro e w11 ⟨rfl, hb⟩
        have HB11 := Lib.hid (bl_trans HB10.out hb)
        clear hb
        go_wp2
        go_ret
        exact ⟨rfl, HB11.out⟩

end Go.Proofs.Ytnhffadebjibnaa
