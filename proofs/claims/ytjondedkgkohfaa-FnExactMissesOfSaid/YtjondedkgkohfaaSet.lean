/- Contracts of SetValid, in the program and in the reference, over tasks that lie in memory. -/
import Derived.Test.YtjondedkgkohfaaBase
import Derived.Test.YtjondedkgkohfaaNum
import Derived.LoopTactic
namespace Go.Proofs.Ytjondedkgkohfaa
open Go.RowKit

/-- A task as plain data. -/
structure Tk where
  lo : Int
  hi : Int
  du : Int
  ev : Int
  cr : Bool

def Tk.ok (t : Tk) : Bool := validB t.lo t.hi t.du t.ev t.cr
def Tk.cells (t : Tk) : List Value := [.int .i64 t.lo, .int .i64 t.hi, .int .i64 t.du, .int .i64 t.ev, .bool t.cr]
def Tk.val (t : Tk) : Value := .agg #[.int .i64 t.lo, .int .i64 t.hi, .int .i64 t.du, .int .i64 t.ev, .bool t.cr]

/-- At (b, o) lies the task t. -/
structure TkAt (w : World) (b o : Nat) (t : Tk) : Prop where
  c0 : w.cell? ⟨b, o, none⟩ = some (.int .i64 t.lo)
  c1 : w.cell? ⟨b, o + 1, none⟩ = some (.int .i64 t.hi)
  c2 : w.cell? ⟨b, o + 2, none⟩ = some (.int .i64 t.du)
  c3 : w.cell? ⟨b, o + 3, none⟩ = some (.int .i64 t.ev)
  c4 : w.cell? ⟨b, o + 4, none⟩ = some (.bool t.cr)

/-- The slice (A, n) reads as the tasks ts; it lies below block B. -/
structure Tks (w : World) (B : Nat) (A : Option Addr) (n : Nat) (ts : List Tk) : Prop where
  len : ts.length = n
  at_ : ∀ i t, ts[i]? = some t → ∃ b o, A = some ⟨b, o, none⟩ ∧ b < B ∧ TkAt w b (o + i * 5) t

theorem TkAt.keep {w w' : World} {b o : Nat} {t : Tk} (h : TkAt w b o t) (hk : ∀ i, w'.cell? ⟨b, i, none⟩ = w.cell? ⟨b, i, none⟩) : TkAt w' b o t :=
  ⟨(hk _).trans h.c0, (hk _).trans h.c1, (hk _).trans h.c2, (hk _).trans h.c3, (hk _).trans h.c4⟩

theorem Tks.keep {w w' : World} {B : Nat} {A : Option Addr} {n : Nat} {ts : List Tk} (h : Tks w B A n ts) (hk : ∀ b i, b < B → w'.cell? ⟨b, i, none⟩ = w.cell? ⟨b, i, none⟩) : Tks w' B A n ts :=
  ⟨h.len, fun i t ht => by
    obtain ⟨b, o, e, hb, hc⟩ := h.at_ i t ht
    exact ⟨b, o, e, hb, hc.keep fun i => hk b i hb⟩⟩
theorem Tks.below {w w' : World} {B : Nat} {A : Option Addr} {n : Nat} {ts : List Tk} (h : Tks w B A n ts) (hb : Below B w w') : Tks w' B A n ts :=
  h.keep fun b i hbB => hb.cell (p := ⟨b, i, none⟩) hbB
theorem Tks.more {w : World} {B B' : Nat} {A : Option Addr} {n : Nat} {ts : List Tk} (h : Tks w B A n ts) (hB : B ≤ B') : Tks w B' A n ts :=
  ⟨h.len, fun i t ht => by
    obtain ⟨b, o, e, hb, hc⟩ := h.at_ i t ht
    exact ⟨b, o, e, by omega, hc⟩⟩

def setB (ts : List Tk) : Bool := decide (ts.length ≤ 5) && ts.all Tk.ok

theorem setB_take_false {ts : List Tk} {k : Nat} {t : Tk} (h : ts[k]? = some t) (hv : t.ok = false) : setB ts = false := by
  unfold setB
  have : ts.all Tk.ok = false := by
    rw [List.all_eq_false]
    exact ⟨t, List.mem_of_getElem? h, by simp [hv]⟩
  simp [this]

theorem all_take_succ {ts : List Tk} {k : Nat} {t : Tk} (h : ts[k]? = some t) (hv : t.ok = true) (ha : (ts.take k).all Tk.ok = true) : (ts.take (k + 1)).all Tk.ok = true := by
  obtain ⟨hk, rfl⟩ := List.getElem?_eq_some_iff.1 h
  rw [List.take_succ_eq_append_getElem hk, List.all_append, ha]
  simp [hv]

theorem ret_bool {a b : Bool} (h : a = b) : Ending.returned (.bool a) = .returned (.bool b) := by rw [h]

def SetRes (ts : List Tk) (w : World) (e : Ending) (w' : World) : Prop := e = .returned (.bool (setB ts)) ∧ Below w.heap.size w w'

set_option maxHeartbeats 1000000 in
theorem iSetValid_any (w : World) (A : Option Addr) (n c : Nat) (ts : List Tk) (h : Tks w w.heap.size A n ts) (hn : n ≤ 1048576) :
    Calls Try.prog 75 #[.slice A n c] w (SetRes ts w) := by
  have H := Lib.hid h
  have hlen := h.len
  clear h
  by_cases h5 : 5 < n
  · have hs : Hid (setB ts = false) := by show setB ts = false; unfold setB; simp; omega
    clear hlen
    go_enter Try.func75, Try.ntmps75
    go_wp2
    go_ret
    exact ⟨by rw [hs.out]; rfl, Below.refl _ _⟩
  have HL := Lib.hid hlen
  clear hlen
  go_enter Try.func75, Try.ntmps75
  go_wp2
  go_loopw [10] (fun i wr => ∃ k : Nat, k ≤ n ∧ i = .int .i64 k ∧ Hid ((ts.take k).all Tk.ok = true) ∧ Below w.heap.size w wr) (fun i _ => n - (intOf i).toNat)
  case atStart => exact ⟨0, Nat.zero_le _, rfl, by show _ = _; rfl, Below.refl _ _⟩
  case round =>
    obtain ⟨k, hk, rfl, hall, hb⟩ := hrel
    by_cases hlt : k < n
    · obtain ⟨t, ht⟩ : ∃ t, ts[k]? = some t := ⟨ts[k]'(by rw [HL.out]; exact hlt), List.getElem?_eq_getElem _⟩
      obtain ⟨b, o, rfl, hbl, c0, c1, c2, c3, c4⟩ := (H.out.below hb).at_ k t ht
      have hsz := hb.size
      have HB := Lib.hid hb
      have HT := Lib.hid ht
      clear hb ht
      cases hv : t.ok
      · have hv' : validB t.lo t.hi t.du t.ev t.cr = false := hv
        have hs : Hid (setB ts = false) := setB_take_false HT.out hv
        clear hv
        go_wp2_with (go_at_call 89; refine (iTaskValid_any _ _ _ _ _ _).mono ?_; rintro e w' ⟨rfl, rfl⟩)
        go_ret
        exact ⟨by rw [hs.out]; rfl, bl_alloc (bl_alloc HB.out _) _⟩
      · have hv' : validB t.lo t.hi t.du t.ev t.cr = true := hv
        have ha : Hid ((ts.take (k + 1)).all Tk.ok = true) := all_take_succ HT.out hv hall.out
        clear hv
        go_wp2_with (go_at_call 89; refine (iTaskValid_any _ _ _ _ _ _).mono ?_; rintro e w' ⟨rfl, rfl⟩)
        go_roundw
        case rel => exact ⟨k + 1, by omega, by go_num, ha, bl_alloc (bl_alloc HB.out _) _⟩
        case measure => simp [intOf]; omega
    · obtain rfl : k = n := by omega
      have hs : Hid (setB ts = true) := by
        show setB ts = true
        unfold setB
        have h := hall.out
        rw [List.take_of_length_le (by rw [HL.out]; omega)] at h
        rw [h]; simp [HL.out]; omega
      have HB := Lib.hid hb
      clear hb
      go_wp2
      go_ret
      exact ⟨by rw [hs.out]; rfl, HB.out⟩

set_option maxHeartbeats 1000000 in
theorem sSetValid_any (w : World) (A : Option Addr) (n c : Nat) (ts : List Tk) (h : Tks w w.heap.size A n ts) (hn : n ≤ 1048576) :
    Calls Try.prog 79 #[.slice A n c] w (SetRes ts w) := by
  have H := Lib.hid h
  have HL := Lib.hid h.len
  clear h
  go_enter Try.func79, Try.ntmps79
  go_wp2
  go_loopw [3] (fun i wr => ∃ k : Nat, k ≤ n ∧ k ≤ 6 ∧ i = .int .i64 k ∧ Hid ((ts.take k).all Tk.ok = true) ∧ Below w.heap.size w wr) (fun i _ => n - (intOf i).toNat)
  case atStart => exact ⟨0, Nat.zero_le _, Nat.zero_le _, rfl, by show _ = _; rfl, Below.refl _ _⟩
  case round =>
    obtain ⟨k, hk, hk6, rfl, hall, hb⟩ := hrel
    by_cases hlt : k < n
    · by_cases h5 : k ≤ 5
      · obtain ⟨t, ht⟩ : ∃ t, ts[k]? = some t := ⟨ts[k]'(by rw [HL.out]; exact hlt), List.getElem?_eq_getElem _⟩
        obtain ⟨b, o, rfl, hbl, c0, c1, c2, c3, c4⟩ := (H.out.below hb).at_ k t ht
        have hsz := hb.size
        have HB := Lib.hid hb
        have HT := Lib.hid ht
        clear hb ht
        cases hv : t.ok
        · have hv' : validB t.lo t.hi t.du t.ev t.cr = false := hv
          have hs : Hid (setB ts = false) := setB_take_false HT.out hv
          clear hv
          go_wp2_with (go_at_call 92; refine (sTaskValid_any _ _ _ _ _ _).mono ?_; rintro e w' ⟨rfl, rfl⟩)
          go_ret
          exact ⟨by rw [hs.out]; rfl, bl_alloc HB.out _⟩
        · have hv' : validB t.lo t.hi t.du t.ev t.cr = true := hv
          have ha : Hid ((ts.take (k + 1)).all Tk.ok = true) := all_take_succ HT.out hv hall.out
          clear hv
          go_wp2_with (go_at_call 92; refine (sTaskValid_any _ _ _ _ _ _).mono ?_; rintro e w' ⟨rfl, rfl⟩)
          go_roundw
          case rel => exact ⟨k + 1, by omega, by omega, by go_num, ha, bl_alloc HB.out _⟩
          case measure => simp [intOf]; omega
      · have hs : Hid (setB ts = false) := by show setB ts = false; unfold setB; simp [HL.out]; omega
        have HB := Lib.hid hb
        clear hb
        go_wp2
        go_ret
        exact ⟨ret_bool (a := decide ((n : Int) ≤ 5)) (by rw [hs.out]; exact decide_eq_false (by omega)), HB.out⟩
    · obtain rfl : k = n := by omega
      have h := hall.out
      rw [List.take_of_length_le (by rw [HL.out]; omega)] at h
      have hs : Hid (setB ts = decide (k ≤ 5)) := by
        show setB ts = _
        unfold setB
        rw [h]; simp [HL.out]
      clear h
      have HB := Lib.hid hb
      clear hb
      by_cases h5 : k ≤ 5
      · go_wp2
        go_ret
        exact ⟨ret_bool (a := decide ((k : Int) ≤ 5)) (by rw [hs.out, decide_eq_true h5]; exact decide_eq_true (by omega)), HB.out⟩
      · go_wp2
        go_ret
        exact ⟨ret_bool (a := decide ((k : Int) ≤ 5)) (by rw [hs.out, decide_eq_false h5]; exact decide_eq_false (by omega)), HB.out⟩

end Go.Proofs.Ytjondedkgkohfaa
