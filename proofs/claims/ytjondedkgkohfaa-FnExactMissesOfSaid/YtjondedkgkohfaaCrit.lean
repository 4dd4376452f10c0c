/- Contracts of CriticalOf, in the program and in the reference: both return the critical tasks with their high needs as low ones, in memory of their own. -/
import Derived.Test.YtjondedkgkohfaaOwn
namespace Go.Proofs.Ytjondedkgkohfaa
open Go.RowKit

def critL (ts : List Tk) : List Tk := (ts.filter Tk.cr).map fun t => ⟨t.hi, t.hi, t.du, t.ev, t.cr⟩
def critOf (ts : List Tk) : List Tk := if setB ts then critL ts else []

theorem critL_yes {ts : List Tk} {k : Nat} {t : Tk} (h : ts[k]? = some t) (hc : t.cr = true) : critL (ts.take (k + 1)) = critL (ts.take k) ++ [⟨t.hi, t.hi, t.du, t.ev, t.cr⟩] := by
  obtain ⟨hk, rfl⟩ := List.getElem?_eq_some_iff.1 h
  rw [List.take_succ_eq_append_getElem hk]
  simp only [critL, List.filter_append, List.map_append, List.filter_cons, hc, if_true, List.filter_nil, List.map_cons, List.map_nil]
theorem critL_no {ts : List Tk} {k : Nat} {t : Tk} (h : ts[k]? = some t) (hc : t.cr = false) : critL (ts.take (k + 1)) = critL (ts.take k) := by
  obtain ⟨hk, rfl⟩ := List.getElem?_eq_some_iff.1 h
  rw [List.take_succ_eq_append_getElem hk]
  simp only [critL, List.filter_append, List.filter_cons, hc, Bool.false_eq_true, if_false, List.filter_nil, List.append_nil]
theorem critL_len (ts : List Tk) : (critL ts).length ≤ ts.length := by
  unfold critL; rw [List.length_map]; exact List.length_filter_le _ _
set_option maxHeartbeats 1000000 in
theorem sCriticalOf_any (w : World) (A : Option Addr) (n c : Nat) (ts : List Tk) (h : Tks w w.heap.size A n ts) (hn : n ≤ 1048576) :
    Calls Try.prog 112 #[.slice A n c] w (LsRes (critOf ts) w) := by
  obtain ⟨i0, hi, hz0, hz1, hz2⟩ := info_parts info_task
  have H := Lib.hid h
  have HL := Lib.hid h.len
  clear h
  cases hs : setB ts
  · have hn0 : 0 < n := by
      rcases Nat.eq_zero_or_pos n with h0 | h0
      · have : ts = [] := List.eq_nil_of_length_eq_zero (by rw [HL.out, h0])
        rw [this] at hs; cases hs
      · exact h0
    go_enter Try.func112, Try.ntmps112
    go_wp2
    go_loopw [3, 4] (fun v i wr => i = .int .i64 0 ∧ Own wr w.heap.size v [] ∧ Below w.heap.size w wr) (fun _ _ _ => 0)
    case atStart => exact ⟨rfl, Own.empty w, bl_alloc (Below.refl _ _) _⟩
    case round =>
      obtain ⟨rfl, ho, hb⟩ := hrel
      have HO := Lib.hid ho
      have HB := Lib.hid hb
      have hsz : w.heap.size ≤ wr.heap.size := hb.size
      clear ho hb
      go_wp2_with fail
      refine (sSetValid_any _ _ _ _ ts ((H.out.below HB.out).more hsz) hn).mono ?_
      rintro e w2 ⟨rfl, hb2⟩
      have HB2 := Lib.hid (bl_trans HB.out hb2)
      have HO2 := Lib.hid (HO.out.below hb2)
      clear hb2
      go_wp2
      go_ret
      exact lsRes_of HO2.out HB2.out (by simp [critOf, hs])
  have h5 : n ≤ 5 := by have := setB_len hs; rw [HL.out] at this; exact this
  have HS := Lib.hid hs
  go_enter Try.func112, Try.ntmps112
  go_wp2
  go_loopw [3, 4] (fun v i wr => ∃ k : Nat, k ≤ n ∧ i = .int .i64 k ∧ Own wr w.heap.size v (critL (ts.take k)) ∧ Below w.heap.size w wr) (fun _ i _ => n - (intOf i).toNat)
  case atStart => exact ⟨0, Nat.zero_le _, rfl, Own.empty w, bl_alloc (Below.refl _ _) _⟩
  case round =>
    obtain ⟨k, hk, rfl, ho, hb⟩ := hrel
    have HO0 := Lib.hid ho
    have HB0 := Lib.hid hb
    have hsz0 : w.heap.size ≤ wr.heap.size := hb.size
    clear ho hb
    by_cases hlt : k < n
    · go_wp2_with fail
      refine (sSetValid_any _ _ _ _ ts ((H.out.below HB0.out).more hsz0) (by omega)).mono ?_
      rintro e w2 ⟨rfl, hb2⟩
      have HB := Lib.hid (bl_trans HB0.out hb2)
      have HO := Lib.hid (HO0.out.below hb2)
      have hsz : w.heap.size ≤ w2.heap.size := HB.out.size
      clear hb2
      obtain ⟨t, ht⟩ : ∃ t, ts[k]? = some t := ⟨ts[k]'(by rw [HL.out]; exact hlt), List.getElem?_eq_getElem _⟩
      obtain ⟨b, o, rfl, hbl, c0, c1, c2, c3, c4⟩ := (H.out.below HB.out).at_ k t ht
      obtain ⟨lo, hi', du, ev, cr⟩ := t
      dsimp only at c0 c1 c2 c3 c4
      have HT := Lib.hid ht
      clear ht
      cases cr
      · go_wp2
        go_roundw
        case rel => exact ⟨k + 1, by omega, by go_num, by rw [critL_no HT.out rfl]; exact HO.out.alloc _, bl_alloc HB.out _⟩
        case measure => simp [intOf]; omega
      · have hlen : (critL (ts.take k)).length ≤ 5 := Nat.le_trans (critL_len _) (by rw [List.length_take]; omega)
        have b1 : (critL (ts.take k)).length + 1 ≤ maxLen := by unfold maxLen; omega
        have b2 : ((critL (ts.take k)).length + 1) * 40 ≤ 140737488355328 := by omega
        go_wp2_with (at_builtin; refine wpList_append_own _ rfl (.tmp 26) (.tmp 28) 23 rfl w.heap.size 73 i0 _ 5 40 Try.underlying23 hi hz0 hz1 hz2 rfl (by decide) _ (critL (ts.take k)).length ((critL (ts.take k)).flatMap Tk.cells) rfl ((HO.out.alloc _).alloc _) ⟨w2.heap.size + 1, 0, none⟩ 1 1 (Tk.cells ⟨hi', hi', du, ev, true⟩) rfl rfl (cell_new5_at _ ⟨hi', hi', du, ev, true⟩ _ _ (by simp)) (by intro u hu; exact cells_one [⟨hi', hi', du, ev, true⟩] u (by simpa using hu)) b1 b2 (by simp; omega) ?_; intro v' w4 hown' hgrow _)
        have HO4 := Lib.hid (Own.snoc hown')
        have HB4 := Lib.hid ((bl_alloc (bl_alloc HB.out _) _).grown hgrow (by simp; omega) (fun k e => (World.ownsRow.lt HO.out k e).1))
        clear hown' hgrow hlen b1 b2
        go_wp2
        go_roundw
        case rel => exact ⟨k + 1, by omega, by go_num, by rw [critL_yes HT.out rfl]; exact HO4.out, HB4.out⟩
        case measure => simp [intOf]; omega
    · obtain rfl : k = n := by omega
      go_wp2
      go_ret
      exact lsRes_of HO0.out HB0.out (by rw [List.take_of_length_le (by rw [HL.out]; omega)]; simp [critOf, HS.out])

end Go.Proofs.Ytjondedkgkohfaa
