/- The walk of the law on the texts of the parts of a set: FnSetParts returns true, and write nothing that was there. -/
import Derived.Test.YtnhffadebjibnabDoorSetFmt
import Derived.Test.YtnhffadebjibnabDoorOwn
import Derived.Test.YtnhffadebjibnabDoorDrawsB
namespace Go.Proofs.YtnhffadebjibnabDoor
open Go.RowKit

theorem Tks.take {w : World} {B : Nat} {A : Option Addr} {n k : Nat} {ts : List Tk} (h : Tks w B A n ts) (hk : k ≤ n) : Tks w B A k (ts.take k) :=
  ⟨by rw [List.length_take, h.len]; omega, fun i t ht => h.at_ i t (by
    rw [List.getElem?_take] at ht
    split at ht
    · exact ht
    · cases ht)⟩
theorem Tks.drop {w : World} {B b o : Nat} {n k m : Nat} {ts : List Tk} (h : Tks w B (some ⟨b, o, none⟩) n ts) (hm : m = o + k * 5) : Tks w B (some ⟨b, m, none⟩) (n - k) (ts.drop k) :=
  ⟨by rw [List.length_drop, h.len], fun i t ht => by
    rw [List.getElem?_drop] at ht
    obtain ⟨b', o', e, hb, hc⟩ := h.at_ _ _ ht
    injection e with e
    injection e with e1 e2
    subst e1 e2 hm
    refine ⟨b, _, rfl, hb, ?_⟩
    rw [show o + k * 5 + i * 5 = o + (k + i) * 5 by omega]
    exact hc⟩
theorem Tks.none_ {w : World} {B : Nat} {A : Option Addr} : Tks w B A 0 [] := ⟨rfl, fun i t ht => by simp at ht⟩
theorem own_first {w : World} {B n c : Nat} {A : Option Addr} {ts : List Tk} (h : Own w B (.slice A n c) ts) (hn : 0 < ts.length) : ∃ g, A = some ⟨g, 0, none⟩ ∧ ts.length ≤ c := by
  rcases h.2 with ⟨e, h0⟩ | ⟨g, cap, cur, e, hB, hg, hle, _⟩
  · omega
  · injection e with e1 e2 e3
    subst e1 e3
    exact ⟨g, rfl, hle⟩

theorem set_parts {ts : List Tk} (k : Nat) (h : setB ts = true) : setB (ts.take k) = true ∧ setB (ts.drop k) = true := by
  unfold setB at h ⊢
  simp at h ⊢
  exact ⟨⟨by omega, fun t ht => h.2 t (List.mem_of_mem_take ht)⟩, ⟨by omega, fun t ht => h.2 t (List.mem_of_mem_drop ht)⟩⟩
theorem text_ne {t : Tk} (h : t.ok = true) : t.text ≠ [] := textL_ne h
theorem joinT_ne {ts : List Tk} (h : setB ts = true) (h0 : ts ≠ []) : (joinT ts).isEmpty = false := by
  cases ts with
  | nil => exact absurd rfl h0
  | cons t ts =>
    have ht : t.ok = true := by unfold setB at h; simp at h; exact h.2.1
    have hn := text_ne ht
    cases ts with
    | nil => rw [joinT, List.map_cons, List.map_nil, join_one]; simpa using hn
    | cons u us => rw [joinT, List.map_cons, List.map_cons, join_two]; simp [hn]
theorem setText_empty (ts : List Tk) : (setText ts).isEmpty = (!setB ts || ts.isEmpty) := by
  unfold setText
  cases h : setB ts
  · rfl
  · rw [if_pos rfl]
    by_cases h0 : ts = []
    · subst h0; simp [joinT, join_nil]
    · rw [joinT_ne h h0]
      simp [h0]
theorem setText_len (ts : List Tk) : (setText ts).length ≤ 160 := by
  unfold setText
  split
  · rename_i h
    have := setB_len h
    exact Nat.le_trans (joinT_len ts) (by omega)
  · simp
theorem parts_join {ts : List Tk} {k : Nat} (h : setB ts = true) (hk : 0 < k) (hk2 : k < ts.length) : setText (ts.take k) ++ semi ++ setText (ts.drop k) = setText ts := by
  obtain ⟨h1, h2⟩ := set_parts k h
  unfold setText
  rw [h, h1, h2, if_pos rfl, if_pos rfl, if_pos rfl]
  conv => rhs; rw [← List.take_append_drop k ts]
  unfold joinT
  have hl : 0 < ts.length := by omega
  rw [List.map_append, join_app]
  · simp; exact ⟨by omega, List.length_pos_iff.1 hl⟩
  · simp; omega

set_option maxRecDepth 100000 in
set_option maxHeartbeats 4000000 in
theorem fnSetParts_walk (w : World) (A : Option Addr) (n c : Nat) (f : Nat → Int) (h : Code w w.heap.size A n c f) :
    Calls Tryd.prog 7 #[.slice A n c] w fun e w' => e = .returned (.bool true) ∧ Below w.heap.size w w' := by
  have H := Lib.hid h
  have hle := h.le
  have hmax := h.max
  unfold maxLen at hmax
  clear h
  by_cases hn : 1048576 < n
  · go_enter Tryd.func7, Tryd.ntmps7
    go_wp2
    go_ret
    exact ⟨rfl, Below.refl _ _⟩
  go_enter Tryd.func7, Tryd.ntmps7
  go_wp2_with fail
  refine (dDrawFormatSet_any _ A n c f H.out).mono ?_
  rintro e w1 ⟨Ats, cts, ts, rfl, hlts, _, ho, hb⟩
  have HO1 := Lib.hid ho
  have HB1 := Lib.hid hb
  clear ho hb H
  go_wp2_with fail
  refine (iFormatSet_any w1 Ats _ cts ts HO1.out.reads.2 (by omega)).mono ?_
  rintro e w2 ⟨rfl, hb⟩
  have HO2 := Lib.hid (HO1.out.below hb)
  have HB2 := Lib.hid (bl_trans HB1.out hb)
  clear hb HO1 HB1
  go_wp2_with fail
  refine (sFormatSet_any w2 Ats _ cts ts HO2.out.reads.2 (by omega)).mono ?_
  rintro e w3 ⟨rfl, hb⟩
  have HO3 := Lib.hid (HO2.out.below hb)
  have HB3 := Lib.hid (bl_trans HB2.out hb)
  clear hb HO2 HB2
  cases hv : (setText ts).isEmpty
  · rw [setText_empty] at hv
    have hs : setB ts = true := by
      cases hb : setB ts
      · rw [hb] at hv; cases hv
      · rfl
    have h0 : ts ≠ [] := by rw [hs] at hv; simpa using hv
    have hpos : 0 < ts.length := List.length_pos_iff.2 h0
    have h5 : ts.length ≤ 5 := setB_len hs
    have he : (setText ts).isEmpty = false := by rw [setText_empty, hs]; simpa using h0
    have HS := Lib.hid hs
    have HE := Lib.hid he
    obtain ⟨g, rfl, hcap⟩ := own_first HO3.out hpos
    obtain ⟨m, hm⟩ : ∃ m, ts.length = m := ⟨_, rfl⟩
    have HL := Lib.hid hm
    have HT3 := Lib.hid (HO3.out.reads.2)
    rw [hm] at hpos h5 hcap HT3 ⊢
    generalize hg1 : setText ts = s at HE he ⊢
    have HG := Lib.hid hg1
    clear hv hs h0 hlts hm HO3 hg1
    have hmm : m = 1 ∨ m = 2 ∨ m = 3 ∨ m = 4 ∨ m = 5 := by omega
    rcases hmm with rfl | rfl | rfl | rfl | rfl
    · go_wp2_with fail
      refine (iFormatSet_any w3 _ 0 cts [] Tks.none_ (by omega)).mono ?_
      rintro e w4 ⟨rfl, hb⟩
      have HB4 := Lib.hid (bl_trans HB3.out hb)
      have HT4 := Lib.hid ((HT3.out.below hb).more hb.size)
      clear hb HT3 HB3
      have za : (setText []).isEmpty = true := by rw [setText_empty]; rfl
      go_wp2_with fail
      have hc := fun a b c => iFormatSet_any w4 a 1 b ts c (by omega)
      rw [HG.out] at hc
      refine (hc _ _ HT4.out).mono ?_
      rintro e w5 ⟨rfl, hb⟩
      have HB5 := Lib.hid (bl_trans HB4.out hb)
      clear hb hc
      go_wp2
      go_ret
      exact ⟨by simp, HB5.out⟩
    · obtain ⟨sb1, sb2⟩ := set_parts 1 HS.out
      have hj := parts_join (k := 1) HS.out (by omega) (by rw [HL.out]; omega)
      have ha : (setText (ts.take 1)).isEmpty = false := by rw [setText_empty, sb1]; simp; intro e; have := HL.out; rw [e] at this; simp at this
      have la : (setText (ts.take 1)).length ≤ 160 := setText_len _
      have lb : (setText (ts.drop 1)).length ≤ 160 := setText_len _
      have hc1 := fun a b c => iFormatSet_any w3 a 1 b (ts.take 1) c (by omega)
      have hc2 := fun W a b c => iFormatSet_any W a 1 b (ts.drop 1) c (by omega)
      rw [HG.out] at hj
      generalize setText (ts.take 1) = x at hc1 ha la hj
      generalize setText (ts.drop 1) = y at hc2 lb hj
      have HJ := Lib.hid (show (⟨x.toArray⟩ ++ ⟨#[59, 32]⟩ ++ ⟨y.toArray⟩ : ByteArray) = ⟨s.toArray⟩ by rw [← hj]; exact ByteArray.ext (by simp [ByteArray.data_append, semi]))
      have HC2 := Lib.hid hc2
      have SB1 := Lib.hid sb1
      clear hj sb2 hc2 sb1
      go_wp2_with fail
      refine (hc1 _ _ (HT3.out.take (by omega))).mono ?_
      rintro e w4 ⟨rfl, hb⟩
      have HB4 := Lib.hid (bl_trans HB3.out hb)
      have HT4 := Lib.hid ((HT3.out.below hb).more hb.size)
      clear hb HT3 HB3 hc1
      go_wp2_with fail
      refine (HC2.out w4 _ _ (Tks.drop (k := 1) HT4.out (by omega))).mono ?_
      rintro e w5 ⟨rfl, hb⟩
      have HB5 := Lib.hid (bl_trans HB4.out hb)
      have HT5 := Lib.hid ((HT4.out.below hb).more hb.size)
      clear hb HT4 HB4 HC2
      have he2 := HJ.out
      have sb1 := SB1.out
      go_wp2_with (go_at_call 23; refine (iSetValid_any w5 _ 1 _ (ts.take 1) (HT5.out.take (by omega)) (by omega)).mono ?_; rintro e w6 ⟨rfl, hb⟩; have HB6 := Lib.hid (bl_trans HB5.out hb); clear hb)
      go_ret
      exact ⟨by simp, HB6.out⟩
    · obtain ⟨sb1, sb2⟩ := set_parts 1 HS.out
      have hj := parts_join (k := 1) HS.out (by omega) (by rw [HL.out]; omega)
      have ha : (setText (ts.take 1)).isEmpty = false := by rw [setText_empty, sb1]; simp; intro e; have := HL.out; rw [e] at this; simp at this
      have la : (setText (ts.take 1)).length ≤ 160 := setText_len _
      have lb : (setText (ts.drop 1)).length ≤ 160 := setText_len _
      have hc1 := fun a b c => iFormatSet_any w3 a 1 b (ts.take 1) c (by omega)
      have hc2 := fun W a b c => iFormatSet_any W a 2 b (ts.drop 1) c (by omega)
      rw [HG.out] at hj
      generalize setText (ts.take 1) = x at hc1 ha la hj
      generalize setText (ts.drop 1) = y at hc2 lb hj
      have HJ := Lib.hid (show (⟨x.toArray⟩ ++ ⟨#[59, 32]⟩ ++ ⟨y.toArray⟩ : ByteArray) = ⟨s.toArray⟩ by rw [← hj]; exact ByteArray.ext (by simp [ByteArray.data_append, semi]))
      have HC2 := Lib.hid hc2
      have SB1 := Lib.hid sb1
      clear hj sb2 hc2 sb1
      go_wp2_with fail
      refine (hc1 _ _ (HT3.out.take (by omega))).mono ?_
      rintro e w4 ⟨rfl, hb⟩
      have HB4 := Lib.hid (bl_trans HB3.out hb)
      have HT4 := Lib.hid ((HT3.out.below hb).more hb.size)
      clear hb HT3 HB3 hc1
      go_wp2_with fail
      refine (HC2.out w4 _ _ (Tks.drop (k := 1) HT4.out (by omega))).mono ?_
      rintro e w5 ⟨rfl, hb⟩
      have HB5 := Lib.hid (bl_trans HB4.out hb)
      have HT5 := Lib.hid ((HT4.out.below hb).more hb.size)
      clear hb HT4 HB4 HC2
      have he2 := HJ.out
      have sb1 := SB1.out
      go_wp2_with (go_at_call 23; refine (iSetValid_any w5 _ 1 _ (ts.take 1) (HT5.out.take (by omega)) (by omega)).mono ?_; rintro e w6 ⟨rfl, hb⟩; have HB6 := Lib.hid (bl_trans HB5.out hb); clear hb)
      go_ret
      exact ⟨by simp, HB6.out⟩
    · obtain ⟨sb1, sb2⟩ := set_parts 2 HS.out
      have hj := parts_join (k := 2) HS.out (by omega) (by rw [HL.out]; omega)
      have ha : (setText (ts.take 2)).isEmpty = false := by rw [setText_empty, sb1]; simp; intro e; have := HL.out; rw [e] at this; simp at this
      have la : (setText (ts.take 2)).length ≤ 160 := setText_len _
      have lb : (setText (ts.drop 2)).length ≤ 160 := setText_len _
      have hc1 := fun a b c => iFormatSet_any w3 a 2 b (ts.take 2) c (by omega)
      have hc2 := fun W a b c => iFormatSet_any W a 2 b (ts.drop 2) c (by omega)
      rw [HG.out] at hj
      generalize setText (ts.take 2) = x at hc1 ha la hj
      generalize setText (ts.drop 2) = y at hc2 lb hj
      have HJ := Lib.hid (show (⟨x.toArray⟩ ++ ⟨#[59, 32]⟩ ++ ⟨y.toArray⟩ : ByteArray) = ⟨s.toArray⟩ by rw [← hj]; exact ByteArray.ext (by simp [ByteArray.data_append, semi]))
      have HC2 := Lib.hid hc2
      have SB1 := Lib.hid sb1
      clear hj sb2 hc2 sb1
      go_wp2_with fail
      refine (hc1 _ _ (HT3.out.take (by omega))).mono ?_
      rintro e w4 ⟨rfl, hb⟩
      have HB4 := Lib.hid (bl_trans HB3.out hb)
      have HT4 := Lib.hid ((HT3.out.below hb).more hb.size)
      clear hb HT3 HB3 hc1
      go_wp2_with fail
      refine (HC2.out w4 _ _ (Tks.drop (k := 2) HT4.out (by omega))).mono ?_
      rintro e w5 ⟨rfl, hb⟩
      have HB5 := Lib.hid (bl_trans HB4.out hb)
      have HT5 := Lib.hid ((HT4.out.below hb).more hb.size)
      clear hb HT4 HB4 HC2
      have he2 := HJ.out
      have sb1 := SB1.out
      go_wp2_with (go_at_call 23; refine (iSetValid_any w5 _ 2 _ (ts.take 2) (HT5.out.take (by omega)) (by omega)).mono ?_; rintro e w6 ⟨rfl, hb⟩; have HB6 := Lib.hid (bl_trans HB5.out hb); clear hb)
      go_ret
      exact ⟨by simp, HB6.out⟩
    · obtain ⟨sb1, sb2⟩ := set_parts 2 HS.out
      have hj := parts_join (k := 2) HS.out (by omega) (by rw [HL.out]; omega)
      have ha : (setText (ts.take 2)).isEmpty = false := by rw [setText_empty, sb1]; simp; intro e; have := HL.out; rw [e] at this; simp at this
      have la : (setText (ts.take 2)).length ≤ 160 := setText_len _
      have lb : (setText (ts.drop 2)).length ≤ 160 := setText_len _
      have hc1 := fun a b c => iFormatSet_any w3 a 2 b (ts.take 2) c (by omega)
      have hc2 := fun W a b c => iFormatSet_any W a 3 b (ts.drop 2) c (by omega)
      rw [HG.out] at hj
      generalize setText (ts.take 2) = x at hc1 ha la hj
      generalize setText (ts.drop 2) = y at hc2 lb hj
      have HJ := Lib.hid (show (⟨x.toArray⟩ ++ ⟨#[59, 32]⟩ ++ ⟨y.toArray⟩ : ByteArray) = ⟨s.toArray⟩ by rw [← hj]; exact ByteArray.ext (by simp [ByteArray.data_append, semi]))
      have HC2 := Lib.hid hc2
      have SB1 := Lib.hid sb1
      clear hj sb2 hc2 sb1
      go_wp2_with fail
      refine (hc1 _ _ (HT3.out.take (by omega))).mono ?_
      rintro e w4 ⟨rfl, hb⟩
      have HB4 := Lib.hid (bl_trans HB3.out hb)
      have HT4 := Lib.hid ((HT3.out.below hb).more hb.size)
      clear hb HT3 HB3 hc1
      go_wp2_with fail
      refine (HC2.out w4 _ _ (Tks.drop (k := 2) HT4.out (by omega))).mono ?_
      rintro e w5 ⟨rfl, hb⟩
      have HB5 := Lib.hid (bl_trans HB4.out hb)
      have HT5 := Lib.hid ((HT4.out.below hb).more hb.size)
      clear hb HT4 HB4 HC2
      have he2 := HJ.out
      have sb1 := SB1.out
      go_wp2_with (go_at_call 23; refine (iSetValid_any w5 _ 2 _ (ts.take 2) (HT5.out.take (by omega)) (by omega)).mono ?_; rintro e w6 ⟨rfl, hb⟩; have HB6 := Lib.hid (bl_trans HB5.out hb); clear hb)
      go_ret
      exact ⟨by simp, HB6.out⟩
  · go_wp2_with fail
    refine (sFormatSet_any w3 Ats _ cts ts HO3.out.reads.2 (by omega)).mono ?_
    rintro e w4 ⟨rfl, hb⟩
    have HB4 := Lib.hid (bl_trans HB3.out hb)
    clear hb
    go_wp2
    go_ret
    exact ⟨by simp, HB4.out⟩

end Go.Proofs.YtnhffadebjibnabDoor
