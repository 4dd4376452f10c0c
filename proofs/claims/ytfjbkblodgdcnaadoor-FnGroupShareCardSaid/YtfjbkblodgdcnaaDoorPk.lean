/- Contracts of PackValid, the reference's and the program's. Nothing that was there is written. -/
import Derived.Test.YtfjbkblodgdcnaaDoorNA
import Derived.RegionTactic
import Derived.ChangeAlike
import Derived.Deep.RegionWith
import Derived.Deep.RegionHeld3
namespace Go.Proofs.YtfjbkblodgdcnaaDoor
open Go.RowKit
set_option linter.unusedVariables false

/-- Whether there can be so many processors; whether a number is one of so many. -/
def procB (p : Int) : Bool := decide (1 ≤ p) && decide (p ≤ 3)
def inPB (z p : Int) : Bool := decide (0 ≤ z) && decide (z < p)
def packB (ts : List Tk) (ws : List Int) (p : Int) : Bool := setB ts && (procB p && (decide (ws.length = ts.length) && ws.all (fun z => inPB z p)))
theorem pack_set {ts : List Tk} {ws : List Int} {p : Int} (h : setB ts = false) : packB ts ws p = false := by unfold packB; rw [h]; rfl
theorem pack_proc {ts : List Tk} {ws : List Int} {p : Int} (h : procB p = false) : packB ts ws p = false := by unfold packB; rw [h]; simp
theorem pack_len {ts : List Tk} {ws : List Int} {p : Int} (h : ¬ ws.length = ts.length) : packB ts ws p = false := by unfold packB; rw [decide_eq_false h]; simp
theorem pack_no {ts : List Tk} {ws : List Int} {p z : Int} {k : Nat} (hz : ws[k]? = some z) (h : inPB z p = false) : packB ts ws p = false := by
  have : ws.all (fun z => inPB z p) = false := by
    rw [List.all_eq_false]
    exact ⟨z, List.mem_of_getElem? hz, by rw [h]; simp⟩
  unfold packB
  rw [this]; simp
theorem pack_yes {ts : List Tk} {ws : List Int} {p : Int} (h1 : setB ts = true) (h2 : procB p = true) (h3 : ws.length = ts.length) (h : ∀ z ∈ ws, inPB z p = true) : packB ts ws p = true := by
  unfold packB
  rw [h1, h2, decide_eq_true h3, List.all_eq_true.2 h]; rfl
theorem packB_iff {ts : List Tk} {ws : List Int} {p : Int} : packB ts ws p = true ↔ setB ts = true ∧ (1 ≤ p ∧ p ≤ 3) ∧ ws.length = ts.length ∧ ∀ z ∈ ws, 0 ≤ z ∧ z < p := by
  unfold packB procB inPB
  simp only [Bool.and_eq_true, decide_eq_true_iff, List.all_eq_true]
theorem all_step {ws : List Int} {p z : Int} {k : Nat} (hz : ws[k]? = some z) (h : ∀ y ∈ ws.take k, inPB y p = true) (hh : inPB z p = true) : ∀ y ∈ ws.take (k + 1), inPB y p = true := by
  obtain ⟨hk, rfl⟩ := List.getElem?_eq_some_iff.1 hz
  rw [List.take_succ_eq_append_getElem hk]
  intro y hy
  rcases List.mem_append.1 hy with hy | hy
  · exact h y hy
  · rw [List.mem_singleton.1 hy]; exact hh

set_option maxHeartbeats 1000000 in
theorem iHave_is (w : World) (p : Int) (b : Bool) (hb : procB p = b) :
    Calls Tryd.prog 98 #[.int .i64 p] w fun e w' => e = .returned (.bool b) ∧ w' = w := by
  subst hb
  unfold procB
  by_cases h1 : 1 ≤ p
  · go_enter Tryd.func98, Tryd.ntmps98
    go_wp2
    go_ret
    exact ⟨by simp [h1], rfl⟩
  · go_enter Tryd.func98, Tryd.ntmps98
    go_wp2
    go_ret
    exact ⟨by rw [show decide (1 ≤ p) = false from decide_eq_false (by omega)]; simp, rfl⟩
set_option maxHeartbeats 1000000 in
theorem sNumber_is (w : World) (p : Int) (b : Bool) (hb : procB p = b) :
    Calls Tryd.prog 102 #[.int .i64 p] w fun e w' => e = .returned (.bool b) ∧ w' = w := by
  subst hb
  unfold procB
  by_cases h1 : 1 ≤ p
  · have k1 : decide (p ≥ 1) = true := decide_eq_true h1
    go_enter Tryd.func102, Tryd.ntmps102
    go_wp2
    go_ret
    exact ⟨by simp [h1], rfl⟩
  · have k1 : decide (p ≥ 1) = false := decide_eq_false h1
    go_enter Tryd.func102, Tryd.ntmps102
    go_wp2
    go_ret
    exact ⟨by simp, rfl⟩
set_option maxHeartbeats 1000000 in
theorem iIsP_is (w : World) (z p : Int) (b : Bool) (hb : inPB z p = b) :
    Calls Tryd.prog 69 #[.int .i64 z, .int .i64 p] w fun e w' => e = .returned (.bool b) ∧ w' = w := by
  subst hb
  unfold inPB
  by_cases h1 : 0 ≤ z
  · go_enter Tryd.func69, Tryd.ntmps69
    go_wp2
    go_ret
    exact ⟨by simp [h1], rfl⟩
  · go_enter Tryd.func69, Tryd.ntmps69
    go_wp2
    go_ret
    exact ⟨by rw [show decide (0 ≤ z) = false from decide_eq_false (by omega)]; simp, rfl⟩

set_option maxRecDepth 100000 in
set_option maxHeartbeats 2000000 in
theorem iPack_is (w : World) (A : Option Addr) (n c : Nat) (ts : List Tk) (A2 : Option Addr) (m c2 : Nat) (ws : List Int) (p : Int) (b : Bool) (h : Tks w w.heap.size A n ts) (hn : n ≤ 1048576) (h2 : Zs w w.heap.size A2 m ws) (hm : m ≤ 1100000) (hb : packB ts ws p = b) :
    Calls Tryd.prog 68 #[.slice A n c, .slice A2 m c2, .int .i64 p] w fun e w' => e = .returned (.bool b) ∧ Below w.heap.size w w' := by
  have H := Lib.hid h
  have HL := Lib.hid h.len
  have J := Lib.hid h2
  have JL := Lib.hid h2.len
  clear h h2
  cases hs : setB ts
  · obtain rfl : b = false := by rw [← hb]; exact pack_set hs
    have HS := Lib.hid hs
    clear hb hs
    go_enter Tryd.func68, Tryd.ntmps68
    go_wp2_with (go_at_call 59; refine (iSetValid_any _ A n c ts H.out hn).mono ?_; rintro e w1 ⟨rfl, hb1⟩; rw [HS.out]; have HB1 := Lib.hid hb1; clear hb1)
    go_ret
    exact ⟨rfl, HB1.out⟩
  have HS := Lib.hid hs
  cases hp : procB p
  · obtain rfl : b = false := by rw [← hb]; exact pack_proc hp
    have HP := Lib.hid hp
    clear hb hs hp
    go_enter Tryd.func68, Tryd.ntmps68
    go_wp2_with (first
      | (go_at_call 59; refine (iSetValid_any _ A n c ts H.out hn).mono ?_; rintro e w1 ⟨rfl, hb1⟩; rw [HS.out]; have HB1 := Lib.hid hb1; clear hb1)
      | (go_at_call 98; refine (iHave_is _ p false HP.out).mono ?_; rintro e w2 ⟨rfl, rfl⟩))
    go_ret
    exact ⟨rfl, HB1.out⟩
  have HP := Lib.hid hp
  by_cases hl : m = n
  · subst hl
    have hlen : ws.length = ts.length := by rw [JL.out, HL.out]
    have HB := Lib.hid hb
    have HLEN := Lib.hid hlen
    clear hb hs hp hlen
    go_enter Tryd.func68, Tryd.ntmps68
    go_wp2_with (first
      | (go_at_call 59; refine (iSetValid_any _ A m c ts H.out hn).mono ?_; rintro e w1 ⟨rfl, hb1⟩; rw [HS.out]; have HB1 := Lib.hid hb1; clear hb1)
      | (go_at_call 98; refine (iHave_is _ p true HP.out).mono ?_; rintro e w2 ⟨rfl, rfl⟩))
    go_loopw [26] (fun i wr => ∃ k : Nat, k ≤ m ∧ i = .int .i64 k ∧ Hid (∀ y ∈ ws.take k, inPB y p = true) ∧ Hid (Below w.heap.size w wr)) (fun i _ => m - (intOf i).toNat)
    case atStart => exact ⟨0, Nat.zero_le _, rfl, Lib.hid (by simp), HB1⟩
    case round =>
      obtain ⟨k, hk, rfl, HK, HBR⟩ := hrel
      by_cases hlt : k < m
      · obtain ⟨z, hz⟩ : ∃ z, ws[k]? = some z := ⟨ws[k]'(by rw [JL.out]; exact hlt), List.getElem?_eq_getElem _⟩
        obtain ⟨bj, oj, rfl, hbj, a0⟩ := (J.out.below HBR.out).at_ k z hz
        have q1 : (0 : Int) ≤ (k : Int) := by omega
        have q2 : (k : Int) < (m : Int) := by omega
        cases hat : inPB z p
        · obtain rfl : b = false := by rw [← HB.out]; exact pack_no hz hat
          have HA := Lib.hid hat
          clear hz hat HB
          go_wp2_with (go_at_call 69; refine (iIsP_is _ z p false HA.out).mono ?_; rintro e w2 ⟨rfl, rfl⟩)
          refine bodyPost_ret (v := .bool false) (by simp [results, Tryd.results68, go_sem]) rfl ⟨rfl, HBR.out⟩
        · have HK2 := Lib.hid (all_step hz HK.out hat)
          have HA := Lib.hid hat
          clear hz hat
          go_wp2_with (go_at_call 69; refine (iIsP_is _ z p true HA.out).mono ?_; rintro e w2 ⟨rfl, rfl⟩)
          go_roundw
          case rel => exact ⟨k + 1, by omega, by go_num, HK2, HBR⟩
          case measure => simp [intOf]; omega
      · obtain rfl : k = m := by omega
        obtain rfl : b = true := by
          rw [← HB.out]
          exact pack_yes HS.out HP.out HLEN.out (by have := HK.out; rwa [List.take_of_length_le (by rw [JL.out]; omega)] at this)
        go_wp2
        refine bodyPost_ret (v := .bool true) (by simp [results, Tryd.results68, go_sem]) rfl ⟨rfl, HBR.out⟩
  · obtain rfl : b = false := by rw [← hb]; exact pack_len (by rw [JL.out, HL.out]; exact hl)
    have hli : ¬ (m : Int) = (n : Int) := by omega
    clear hb hs hp
    go_enter Tryd.func68, Tryd.ntmps68
    go_wp2_with (first
      | (go_at_call 59; refine (iSetValid_any _ A n c ts H.out hn).mono ?_; rintro e w1 ⟨rfl, hb1⟩; rw [HS.out]; have HB1 := Lib.hid hb1; clear hb1)
      | (go_at_call 98; refine (iHave_is _ p true HP.out).mono ?_; rintro e w2 ⟨rfl, rfl⟩))
    go_ret
    exact ⟨rfl, HB1.out⟩

set_option maxRecDepth 100000 in
set_option maxHeartbeats 2000000 in
theorem sPack_is (w : World) (A : Option Addr) (n c : Nat) (ts : List Tk) (A2 : Option Addr) (m c2 : Nat) (ws : List Int) (p : Int) (b : Bool) (h : Tks w w.heap.size A n ts) (hn : n ≤ 1048576) (h2 : Zs w w.heap.size A2 m ws) (hm : m ≤ 1100000) (hb : packB ts ws p = b) :
    Calls Tryd.prog 71 #[.slice A n c, .slice A2 m c2, .int .i64 p] w fun e w' => e = .returned (.bool b) ∧ Below w.heap.size w w' := by
  have H := Lib.hid h
  have HL := Lib.hid h.len
  have J := Lib.hid h2
  have JL := Lib.hid h2.len
  clear h h2
  cases hs : setB ts
  · obtain rfl : b = false := by rw [← hb]; exact pack_set hs
    have HS := Lib.hid hs
    clear hb hs
    go_enter Tryd.func71, Tryd.ntmps71
    go_wp2_with (go_at_call 61; refine (sSetValid_any _ A n c ts H.out hn).mono ?_; rintro e w1 ⟨rfl, hb1⟩; rw [HS.out]; have HB1 := Lib.hid hb1; clear hb1)
    go_ret
    exact ⟨rfl, HB1.out⟩
  have HS := Lib.hid hs
  by_cases hl : m = n
  · cases hp : procB p
    · obtain rfl : b = false := by rw [← hb]; exact pack_proc hp
      subst hl
      have HP := Lib.hid hp
      clear hb hs hp
      go_enter Tryd.func71, Tryd.ntmps71
      go_wp2_with (first
        | (go_at_call 61; refine (sSetValid_any _ A m c ts H.out hn).mono ?_; rintro e w1 ⟨rfl, hb1⟩; rw [HS.out]; have HB1 := Lib.hid hb1; clear hb1)
        | (go_at_call 102; refine (sNumber_is _ p false HP.out).mono ?_; rintro e w2 ⟨rfl, rfl⟩))
      go_ret
      exact ⟨rfl, HB1.out⟩
    subst hl
    have HP := Lib.hid hp
    have hlen : ws.length = ts.length := by rw [JL.out, HL.out]
    have HB := Lib.hid hb
    have HLEN := Lib.hid hlen
    clear hb hs hp hlen
    go_enter Tryd.func71, Tryd.ntmps71
    go_wp2_with (first
      | (go_at_call 61; refine (sSetValid_any _ A m c ts H.out hn).mono ?_; rintro e w1 ⟨rfl, hb1⟩; rw [HS.out]; have HB1 := Lib.hid hb1; clear hb1)
      | (go_at_call 102; refine (sNumber_is _ p true HP.out).mono ?_; rintro e w2 ⟨rfl, rfl⟩))
    go_loopw [7] (fun i wr => ∃ k : Nat, k ≤ m ∧ i = .int .i64 k ∧ Hid (∀ y ∈ ws.take k, inPB y p = true) ∧ Hid (Below w.heap.size w wr)) (fun i _ => m - (intOf i).toNat)
    case atStart => exact ⟨0, Nat.zero_le _, rfl, Lib.hid (by simp), HB1⟩
    case round =>
      obtain ⟨k, hk, rfl, HK, HBR⟩ := hrel
      by_cases hlt : k < m
      · obtain ⟨z, hz⟩ : ∃ z, ws[k]? = some z := ⟨ws[k]'(by rw [JL.out]; exact hlt), List.getElem?_eq_getElem _⟩
        obtain ⟨bj, oj, rfl, hbj, a0⟩ := (J.out.below HBR.out).at_ k z hz
        have q1 : (0 : Int) ≤ (k : Int) := by omega
        have q2 : (k : Int) < (m : Int) := by omega
        by_cases z1 : z < 0
        · obtain rfl : b = false := by rw [← HB.out]; exact pack_no hz (by unfold inPB; rw [decide_eq_false (by omega)]; rfl)
          have k1 : decide (z < 0) = true := decide_eq_true z1
          clear hz HB
          go_wp2
          refine bodyPost_ret (v := .bool false) (by simp [results, Tryd.results71, go_sem]) rfl ⟨rfl, HBR.out⟩
        have k1 : decide (z < 0) = false := decide_eq_false z1
        by_cases z2 : z ≥ p
        · obtain rfl : b = false := by rw [← HB.out]; exact pack_no hz (by unfold inPB; rw [decide_eq_false (show ¬ z < p by omega)]; simp)
          have k2 : decide (z ≥ p) = true := decide_eq_true z2
          clear hz HB
          go_wp2
          refine bodyPost_ret (v := .bool false) (by simp [results, Tryd.results71, go_sem]) rfl ⟨rfl, HBR.out⟩
        · have k2 : decide (z ≥ p) = false := decide_eq_false z2
          have HK2 := Lib.hid (all_step hz HK.out (by unfold inPB; rw [decide_eq_true (show 0 ≤ z by omega), decide_eq_true (show z < p by omega)]; rfl))
          clear hz
          go_wp2
          go_roundw
          case rel => exact ⟨k + 1, by omega, by go_num, HK2, HBR⟩
          case measure => simp [intOf]; omega
      · obtain rfl : k = m := by omega
        obtain rfl : b = true := by
          rw [← HB.out]
          exact pack_yes HS.out HP.out HLEN.out (by have := HK.out; rwa [List.take_of_length_le (by rw [JL.out]; omega)] at this)
        go_wp2
        refine bodyPost_ret (v := .bool true) (by simp [results, Tryd.results71, go_sem]) rfl ⟨rfl, HBR.out⟩
  · obtain rfl : b = false := by rw [← hb]; exact pack_len (by rw [JL.out, HL.out]; exact hl)
    have hli : ¬ (m : Int) = (n : Int) := by omega
    clear hb hs
    go_enter Tryd.func71, Tryd.ntmps71
    go_wp2_with (go_at_call 61; refine (sSetValid_any _ A n c ts H.out hn).mono ?_; rintro e w1 ⟨rfl, hb1⟩; rw [HS.out]; have HB1 := Lib.hid hb1; clear hb1)
    go_ret
    exact ⟨rfl, HB1.out⟩

end Go.Proofs.YtfjbkblodgdcnaaDoor
