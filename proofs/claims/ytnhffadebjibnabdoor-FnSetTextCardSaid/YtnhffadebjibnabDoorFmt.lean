/- Contracts of FormatTask, in the program and in the reference: both return the text of a task, and write nothing that was there. -/
import Derived.Test.YtnhffadebjibnabDoorTxt
import Derived.Test.YtnhffadebjibnabDoorOpen
import Derived.Test.YtnhffadebjibnabDoorShA
import Derived.Laws.IdiomStrings
import Derived.Deep.RegionHeld3
namespace Go.Proofs.YtnhffadebjibnabDoor
open Go.RowKit

def StrRes (l : List UInt8) (w : World) (e : Ending) (w' : World) : Prop := e = .returned (str l) ∧ Below w.heap.size w w'

theorem dec_step {k : Nat} (h : ¬ k < 10) : Lib.decDigits k = Lib.decDigits (k / 10) ++ [UInt8.ofNat (48 + k % 10)] := by rw [Lib.decDigits, dif_neg h]

theorem dec_hid {m x : Nat} {o : List UInt8} (hg : Hid (Lib.decDigits m = Lib.decDigits x ++ o)) (h0 : 9 < x) : Hid (Lib.decDigits m = Lib.decDigits (x / 10) ++ ((48 + UInt8.ofNat (x % 10)) :: o)) := by
  show _ = _
  rw [hg.out, dec_step (by omega)]
  simp

theorem digits_le : ∀ (k u : Nat), u < 10 ^ (k + 1) → Lib.nDigits u ≤ k + 1
  | 0, u, h => by rw [Lib.nDigits_small (by simpa using h)]; omega
  | k + 1, u, h => by
    by_cases b : u < 10
    · rw [Lib.nDigits_small b]; omega
    · rw [Lib.nDigits_big b]
      have := digits_le k (u / 10) (by rw [Nat.pow_succ] at h; omega)
      omega
theorem hid_len {m x : Nat} {o : List UInt8} (hm : m ≤ 4000000000) (hg : Hid (Lib.decDigits m = Lib.decDigits x ++ o)) : o.length ≤ 10 := by
  have h := congrArg List.length hg.out
  rw [List.length_append, Lib.decDigits_length, Lib.decDigits_length] at h
  have h1 := digits_le 9 m (by omega)
  omega

theorem conv_digit (w : World) (d : Int) (h0 : 0 ≤ d) (h1 : d < 10) :
    (convert 22 9 (.slice (some ⟨w.heap.size, 0, none⟩) 1 1)).run Tryd.prog (w.alloc (.cells #[.int .u8 (48 + d)] 5)) = .ok (str [UInt8.ofNat (48 + d.toNat)]) (w.alloc (.cells #[.int .u8 (48 + d)] 5)) := by
  refine run_convert_bytes_back _ _ _ 5 _ _ [UInt8.ofNat (48 + d.toNat)] Tryd.underlying22 Tryd.underlying5 Tryd.underlying9 ?_
  intro j hj
  obtain rfl : j = 0 := by simp at hj; exact hj
  have hz : (⟨w.heap.size, 0, none⟩ : Addr).add 0 = ⟨w.heap.size, 0, none⟩ := by unfold Addr.add; split <;> simp_all
  rw [hz, (Blk.new w 5 _).cell 0]
  simp
  omega

set_option maxRecDepth 100000 in
set_option maxHeartbeats 1000000 in
theorem l11Dec_any (w : World) (m : Nat) (hm : m ≤ 4000000000) :
    Calls Tryd.prog 41 #[.int .i64 m] w (StrRes (Lib.decDigits m) w) := by
  have hd : Hid (Lib.decDigits m = Lib.decDigits m ++ []) := by show _ = _; simp
  go_enter Tryd.func41, Tryd.ntmps41
  go_wp2
  go_loopw [0, 3] (fun u v wr => ∃ (x : Nat) (o : List UInt8), x ≤ 4000000000 ∧ o.length ≤ 20 ∧ u = .int .i64 x ∧ v = str o ∧ Hid (Lib.decDigits m = Lib.decDigits x ++ o) ∧ Below w.heap.size w wr) (fun u _ _ => (intOf u).toNat)
  case atStart => exact ⟨m, [], hm, by simp, rfl, rfl, hd, Below.refl _ _⟩
  case round =>
    obtain ⟨x, o, hx, ho, rfl, rfl, hg, hbl⟩ := hrel
    have HB := Lib.hid hbl
    clear hbl
    by_cases h0 : 9 < x
    · have hc := conv_digit wr ((x : Int) % 10) (by omega) (by omega)
      go_wp2
      go_roundw
      case rel => exact ⟨x / 10, (48 + UInt8.ofNat (x % 10)) :: o, by omega, Nat.le_trans (hid_len hm (dec_hid hg h0)) (by omega), by go_num, congrArg Value.string (ByteArray.mk_append_mk [48 + UInt8.ofNat (x % 10)] o), dec_hid hg h0, bl_alloc HB.out _⟩
      case measure => simp [intOf]; omega
    · have hc := conv_digit wr (x : Int) (by omega) (by omega)
      go_wp2
      go_ret
      refine ⟨congrArg Ending.returned ((congrArg Value.string (ByteArray.mk_append_mk [48 + UInt8.ofNat x] o)).trans ?_), bl_alloc HB.out _⟩
      rw [hg.out, Lib.decDigits_one (by omega)]
      simp

def TkV (lo hi du ev : Int) (cr : Bool) : Value := .agg #[.int .i64 lo, .int .i64 hi, .int .i64 du, .int .i64 ev, .bool cr]

theorem bytes_slash (a b : List UInt8) : (⟨a.toArray⟩ ++ ⟨#[47]⟩ ++ ⟨b.toArray⟩ : ByteArray) = ⟨(a ++ 47 :: b).toArray⟩ := ByteArray.ext (by simp [ByteArray.data_append])
theorem bytes_task (a b c : List UInt8) : (⟨a.toArray⟩ ++ ⟨#[32, 101, 118, 101, 114, 121, 32]⟩ ++ ⟨b.toArray⟩ ++ ⟨c.toArray⟩ : ByteArray) = ⟨(a ++ everyL ++ b ++ c).toArray⟩ := ByteArray.ext (by simp [ByteArray.data_append, everyL])
theorem needL_len {lo hi : Int} {cr : Bool} (h1 : lo < 100) (h2 : hi < 100) : (needL lo hi cr).length ≤ 5 := by
  have a := dec_len h1
  have b := dec_len h2
  cases cr <;> simp [needL] <;> omega
theorem dueL_len {du ev : Int} (h1 : du < 100) : (dueL du ev).length ≤ 6 := by
  have a := dec_len h1
  by_cases e : du = ev <;> simp [dueL, e] at * <;> omega

theorem itoa_any (w : World) (n : Int) (h0 : 0 ≤ n) (h1 : n < 100) :
    Calls Tryd.prog 38 #[.int .i64 n] w fun e w' => e = .returned (str (dec n)) ∧ w' = w := by
  obtain ⟨m, rfl⟩ : ∃ m : Nat, n = m := ⟨n.toNat, by omega⟩
  exact Any.strconv_Itoa_small Tryd.lays171 m (by omega) w
theorem sdec_any (w : World) (n : Int) (h0 : 0 ≤ n) (h1 : n < 100) :
    Calls Tryd.prog 41 #[.int .i64 n] w (StrRes (dec n) w) := by
  obtain ⟨m, rfl⟩ : ∃ m : Nat, n = m := ⟨n.toNat, by omega⟩
  exact l11Dec_any w m (by omega)

set_option maxRecDepth 100000 in
set_option maxHeartbeats 1000000 in
theorem need_any (w : World) (lo hi du ev : Int) (cr : Bool) (h1 : 0 ≤ lo) (h2 : lo < 100) (h3 : 0 ≤ hi) (h4 : hi < 100) :
    Calls Tryd.prog 37 #[.agg #[.int .i64 lo, .int .i64 hi, .int .i64 du, .int .i64 ev, .bool cr]] w (StrRes (needL lo hi cr) w) := by
  have l1 := dec_len h2
  have l2 := dec_len h4
  cases cr
  · go_enter Tryd.func37, Tryd.ntmps37
    go_wp2_with (go_at_call 38; refine (itoa_any _ _ h1 h2).mono ?_; rintro e w' ⟨rfl, rfl⟩)
    go_ret
    exact ⟨rfl, bl_alloc (Below.refl _ _) _⟩
  · go_enter Tryd.func37, Tryd.ntmps37
    have k1 : ¬ 9223372036854775807 < (dec lo).length + 1 := by omega
    have k2 : ¬ 9223372036854775807 < (dec lo).length + 1 + (dec hi).length := by omega
    go_wp2
    go_region_held3 (fun W => W.cell? ⟨w.heap.size, 0, none⟩ = some (.int .i64 lo) ∧ W.cell? ⟨w.heap.size, 1, none⟩ = some (.int .i64 hi)) (simp [go_sem])
      (first | (go_at_call 38; refine (itoa_any _ lo h1 h2).mono ?_; rintro e w' ⟨rfl, rfl⟩) | (go_at_call 38; refine (itoa_any _ hi h3 h4).mono ?_; rintro e w' ⟨rfl, rfl⟩))
    go_wp2
    go_ret
    exact ⟨congrArg Ending.returned (congrArg Value.string (bytes_slash (dec lo) (dec hi))), Below.drew (bl_alloc (Below.refl _ _) _)⟩

set_option maxHeartbeats 1000000 in
theorem dueText_any (w : World) (lo hi du ev : Int) (cr : Bool) (h1 : 0 ≤ du) (h2 : du < 100) :
    Calls Tryd.prog 39 #[.agg #[.int .i64 lo, .int .i64 hi, .int .i64 du, .int .i64 ev, .bool cr]] w (StrRes (dueL du ev) w) := by
  have l1 := dec_len h2
  by_cases he : du = ev
  · have he' : (du == ev) = true := by simpa using he
    go_enter Tryd.func39, Tryd.ntmps39
    go_wp2
    go_ret
    exact ⟨by rw [dueL, if_pos he]; rfl, bl_alloc (Below.refl _ _) _⟩
  · have he' : (du == ev) = false := by simpa using he
    go_enter Tryd.func39, Tryd.ntmps39
    go_wp2_with (go_at_call 38; refine (itoa_any _ _ h1 h2).mono ?_; rintro e w' ⟨rfl, rfl⟩)
    go_ret
    exact ⟨by rw [dueL, if_neg he]; exact congrArg Ending.returned (congrArg Value.string (ByteArray.mk_append_mk [32, 98, 121, 32] (dec du))), bl_alloc (Below.refl _ _) _⟩

abbrev T5 (W : World) (b : Nat) (lo hi du ev : Int) (cr : Bool) : Prop := W.cell? ⟨b, 0, none⟩ = some (.int .i64 lo) ∧ W.cell? ⟨b, 1, none⟩ = some (.int .i64 hi) ∧ W.cell? ⟨b, 2, none⟩ = some (.int .i64 du) ∧ W.cell? ⟨b, 3, none⟩ = some (.int .i64 ev) ∧ W.cell? ⟨b, 4, none⟩ = some (.bool cr)
theorem t5_kept {W W' : World} (b : Nat) (lo hi du ev : Int) (cr : Bool) (hb : Below W.heap.size W W') (hl : b < W.heap.size) (h : T5 W b lo hi du ev cr) : T5 W' b lo hi du ev cr :=
  ⟨(hb.cell (p := ⟨b, 0, none⟩) hl).trans h.1, (hb.cell (p := ⟨b, 1, none⟩) hl).trans h.2.1, (hb.cell (p := ⟨b, 2, none⟩) hl).trans h.2.2.1, (hb.cell (p := ⟨b, 3, none⟩) hl).trans h.2.2.2.1, (hb.cell (p := ⟨b, 4, none⟩) hl).trans h.2.2.2.2⟩

set_option maxRecDepth 100000 in
set_option maxHeartbeats 2000000 in
theorem iFormatTask_any (w : World) (lo hi du ev : Int) (cr : Bool) :
    Calls Tryd.prog 13 #[.agg #[.int .i64 lo, .int .i64 hi, .int .i64 du, .int .i64 ev, .bool cr]] w (StrRes (textL lo hi du ev cr) w) := by
  cases hv : validB lo hi du ev cr
  · go_enter Tryd.func13, Tryd.ntmps13
    go_wp2_with (go_at_call 15; refine (iTaskValid_any _ _ _ _ _ _).mono ?_; rintro e w' ⟨rfl, rfl⟩)
    go_ret
    exact ⟨by rw [textL_nil hv]; rfl, bl_alloc (bl_alloc (Below.refl _ _) _) _⟩
  · obtain ⟨v1, v2, v3, v4, v5⟩ := valid_of hv
    have l1 := needL_len (lo := lo) (hi := hi) (cr := cr) (by omega) (by omega)
    have l2 := dec_len (n := ev) (by omega)
    have l3 := dueL_len (du := du) (ev := ev) (by omega)
    have k1 : ¬ 9223372036854775807 < (needL lo hi cr).length + 7 := by omega
    have k2 : ¬ 9223372036854775807 < (needL lo hi cr).length + 7 + (dec ev).length := by omega
    have k3 : ¬ 9223372036854775807 < (needL lo hi cr).length + 7 + (dec ev).length + (dueL du ev).length := by omega
    have e1 : 0 ≤ lo := by omega
    have e2 : lo < 100 := by omega
    have e3 : 0 ≤ hi := by omega
    have e4 : hi < 100 := by omega
    have e5 : 0 ≤ du := by omega
    have e6 : du < 100 := by omega
    have e7 : 0 ≤ ev := by omega
    have e8 : ev < 100 := by omega
    clear v1 v2 v3 v4 v5 l1 l2 l3
    go_enter Tryd.func13, Tryd.ntmps13
    go_wp2_with (go_at_call 15; refine (iTaskValid_any _ _ _ _ _ _).mono ?_; rintro e w' ⟨rfl, rfl⟩)
    go_region_held3 (fun W => W.cell? ⟨w.heap.size, 0, none⟩ = some (.int .i64 lo) ∧ W.cell? ⟨w.heap.size, 1, none⟩ = some (.int .i64 hi) ∧ W.cell? ⟨w.heap.size, 2, none⟩ = some (.int .i64 du) ∧ W.cell? ⟨w.heap.size, 3, none⟩ = some (.int .i64 ev) ∧ W.cell? ⟨w.heap.size, 4, none⟩ = some (.bool cr)) (first | (exact ⟨by assumption, by assumption, by assumption, by assumption, by assumption⟩) | (simp [go_sem, World.cell?_alloc_past, *]; done))
      (first
        | (go_at_call 38; refine (itoa_any _ ev e7 e8).mono ?_; rintro e w' ⟨rfl, rfl⟩)
        | (go_at_call 37; refine (need_any _ lo hi du ev cr e1 e2 e3 e4).mono ?_; rintro e wa ⟨rfl, ha⟩
           have sa : w.heap.size < wa.heap.size := by have := ha.size; simp at this; omega
           have HA := Lib.hid (bl_trans (show Below w.heap.size w _ by repeat (first | exact Below.refl _ _ | refine Below.drew ?_ | refine bl_alloc ?_ _)) ha)
           obtain ⟨a0, a1, a2, a3, a4⟩ := t5_kept w.heap.size lo hi du ev cr ha (by first | omega | (simp; try omega)) (by first | assumption | (simp [go_sem, World.cell?_alloc_past]; done))
           clear ha)
        | (go_at_call 39; refine (dueText_any _ lo hi du ev cr e5 e6).mono ?_; rintro e wb ⟨rfl, hb⟩
           have HB := Lib.hid (bl_trans (show Below w.heap.size w _ by repeat (first | exact HA.out | refine Below.drew ?_ | refine bl_alloc ?_ _)) hb)
           obtain ⟨b0, b1, b2, b3, b4⟩ := t5_kept w.heap.size lo hi du ev cr hb (by first | omega | (simp; try omega)) (by first | assumption | (simp [go_sem, *]; done))
           clear hb a0 a1 a2 a3 a4))
    go_wp2
    go_ret
    exact ⟨by rw [textL, if_pos hv]; exact congrArg Ending.returned (congrArg Value.string (bytes_task _ _ _)), by repeat (first | exact HB.out | refine Below.drew ?_)⟩

theorem textL_slash (lo hi du ev : Int) (cr : Bool) (hv : validB lo hi du ev cr = true) : textL lo hi du ev cr = needL lo hi cr ++ everyL ++ dec ev ++ (if du < ev then [32, 98, 121, 32] ++ dec du else []) := by
  obtain ⟨v1, v2, v3, v4, v5⟩ := valid_of hv
  rw [textL, if_pos hv, taskL, dueL]
  by_cases h : du = ev
  · rw [if_pos h, if_neg (by omega)]
  · rw [if_neg h, if_pos (by omega)]

set_option maxRecDepth 100000 in
set_option maxHeartbeats 2000000 in
theorem sFormatTask_any (w : World) (lo hi du ev : Int) (cr : Bool) :
    Calls Tryd.prog 16 #[.agg #[.int .i64 lo, .int .i64 hi, .int .i64 du, .int .i64 ev, .bool cr]] w (StrRes (textL lo hi du ev cr) w) := by
  cases hv : validB lo hi du ev cr
  · go_enter Tryd.func16, Tryd.ntmps16
    go_wp2_with (go_at_call 17; refine (sTaskValid_any _ _ _ _ _ _).mono ?_; rintro e w' ⟨rfl, rfl⟩)
    go_ret
    exact ⟨by rw [textL_nil hv]; rfl, bl_alloc (bl_alloc (Below.refl _ _) _) _⟩
  · obtain ⟨v1, v2, v3, v4, v5⟩ := valid_of hv
    have l1 := dec_len (n := lo) (by omega)
    have l2 := dec_len (n := hi) (by omega)
    have l3 := dec_len (n := du) (by omega)
    have l4 := dec_len (n := ev) (by omega)
    have HT := Lib.hid (textL_slash lo hi du ev cr hv)
    by_cases hd : du < ev
    · cases cr
      · go_enter Tryd.func16, Tryd.ntmps16
        go_wp2_with (first
          | (go_at_call 17; refine (sTaskValid_any _ _ _ _ _ _).mono ?_; rintro e w' ⟨rfl, rfl⟩)
          | (go_at_call 41; refine (sdec_any _ _ (by omega) (by omega)).mono ?_; rintro e wa ⟨rfl, ha⟩
             have sa : w.heap.size < wa.heap.size := by have := ha.size; first | omega | (simp at this; omega)
             have HA := Lib.hid (bl_trans (show Below w.heap.size w _ by repeat (first | exact HA.out | exact Below.refl _ _ | refine Below.drew ?_ | refine bl_alloc ?_ _)) ha)
             obtain ⟨a0, a1, a2, a3, a4⟩ := t5_kept w.heap.size lo hi du ev false ha (by first | omega | (simp; try omega)) (by first | (exact ⟨by assumption, by assumption, by assumption, by assumption, by assumption⟩) | (simp [T5, go_sem, World.cell?_alloc_past]; done))
             clear ha))
        go_ret
        exact ⟨by rw [HT.out, if_pos hd]; exact congrArg Ending.returned (congrArg Value.string (ByteArray.ext (by simp [ByteArray.data_append, everyL, needL]))), by repeat (first | exact HA.out | refine Below.drew ?_ | refine bl_alloc ?_ _)⟩
      · go_enter Tryd.func16, Tryd.ntmps16
        go_wp2_with (first
          | (go_at_call 17; refine (sTaskValid_any _ _ _ _ _ _).mono ?_; rintro e w' ⟨rfl, rfl⟩)
          | (go_at_call 41; refine (sdec_any _ _ (by omega) (by omega)).mono ?_; rintro e wa ⟨rfl, ha⟩
             have sa : w.heap.size < wa.heap.size := by have := ha.size; first | omega | (simp at this; omega)
             have HA := Lib.hid (bl_trans (show Below w.heap.size w _ by repeat (first | exact HA.out | exact Below.refl _ _ | refine Below.drew ?_ | refine bl_alloc ?_ _)) ha)
             obtain ⟨a0, a1, a2, a3, a4⟩ := t5_kept w.heap.size lo hi du ev true ha (by first | omega | (simp; try omega)) (by first | (exact ⟨by assumption, by assumption, by assumption, by assumption, by assumption⟩) | (simp [T5, go_sem, World.cell?_alloc_past]; done))
             clear ha))
        go_ret
        exact ⟨by rw [HT.out, if_pos hd]; exact congrArg Ending.returned (congrArg Value.string (ByteArray.ext (by simp [ByteArray.data_append, everyL, needL]))), by repeat (first | exact HA.out | refine Below.drew ?_ | refine bl_alloc ?_ _)⟩
    · cases cr
      · go_enter Tryd.func16, Tryd.ntmps16
        go_wp2_with (first
          | (go_at_call 17; refine (sTaskValid_any _ _ _ _ _ _).mono ?_; rintro e w' ⟨rfl, rfl⟩)
          | (go_at_call 41; refine (sdec_any _ _ (by omega) (by omega)).mono ?_; rintro e wa ⟨rfl, ha⟩
             have sa : w.heap.size < wa.heap.size := by have := ha.size; first | omega | (simp at this; omega)
             have HA := Lib.hid (bl_trans (show Below w.heap.size w _ by repeat (first | exact HA.out | exact Below.refl _ _ | refine Below.drew ?_ | refine bl_alloc ?_ _)) ha)
             obtain ⟨a0, a1, a2, a3, a4⟩ := t5_kept w.heap.size lo hi du ev false ha (by first | omega | (simp; try omega)) (by first | (exact ⟨by assumption, by assumption, by assumption, by assumption, by assumption⟩) | (simp [T5, go_sem, World.cell?_alloc_past]; done))
             clear ha))
        go_ret
        exact ⟨by rw [HT.out, if_neg (by omega)]; exact congrArg Ending.returned (congrArg Value.string (ByteArray.ext (by simp [ByteArray.data_append, everyL, needL]))), by repeat (first | exact HA.out | refine Below.drew ?_ | refine bl_alloc ?_ _)⟩
      · go_enter Tryd.func16, Tryd.ntmps16
        go_wp2_with (first
          | (go_at_call 17; refine (sTaskValid_any _ _ _ _ _ _).mono ?_; rintro e w' ⟨rfl, rfl⟩)
          | (go_at_call 41; refine (sdec_any _ _ (by omega) (by omega)).mono ?_; rintro e wa ⟨rfl, ha⟩
             have sa : w.heap.size < wa.heap.size := by have := ha.size; first | omega | (simp at this; omega)
             have HA := Lib.hid (bl_trans (show Below w.heap.size w _ by repeat (first | exact HA.out | exact Below.refl _ _ | refine Below.drew ?_ | refine bl_alloc ?_ _)) ha)
             obtain ⟨a0, a1, a2, a3, a4⟩ := t5_kept w.heap.size lo hi du ev true ha (by first | omega | (simp; try omega)) (by first | (exact ⟨by assumption, by assumption, by assumption, by assumption, by assumption⟩) | (simp [T5, go_sem, World.cell?_alloc_past]; done))
             clear ha))
        go_ret
        exact ⟨by rw [HT.out, if_neg (by omega)]; exact congrArg Ending.returned (congrArg Value.string (ByteArray.ext (by simp [ByteArray.data_append, everyL, needL]))), by repeat (first | exact HA.out | refine Below.drew ?_ | refine bl_alloc ?_ _)⟩

end Go.Proofs.YtnhffadebjibnabDoor
