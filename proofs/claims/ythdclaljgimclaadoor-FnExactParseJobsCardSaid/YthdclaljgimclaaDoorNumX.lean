/- Contract of the reference's reader of a numeral: at the numeral of a number from 0 to 200 it returns that number. -/
import Derived.Test.YthdclaljgimclaaDoorOwS
import Derived.LoopTactic
namespace Go.Proofs.YthdclaljgimclaaDoor
open Go.RowKit

theorem valJ_take {l : List UInt8} {k : Nat} {b : UInt8} (h : l[k]? = some b) : valJ (l.take (k + 1)) = valJ (l.take k) * 10 + (b.toNat - 48) := by
  obtain ⟨hk, rfl⟩ := List.getElem?_eq_some_iff.1 h
  rw [List.take_succ_eq_append_getElem hk]
  unfold valJ
  rw [List.foldl_append]
  rfl
theorem isNumL {l : List UInt8} {m : Int} (h1 : 0 ≤ m) (h2 : m ≤ 200) (h : l = decJ m) : IsNum l m := by
  subst h; exact isNum h1 h2
theorem num48 {l : List UInt8} {m : Int} (h : IsNum l m) (h1 : l.head? = some 48) (h2 : 1 < l.length) : False := by
  rcases h.h48 with hx | hx
  · exact hx h1
  · omega

def NumS (l : List UInt8) (w : World) (e : Ending) (w' : World) : Prop :=
  ∃ (k : Int) (b : Bool), e = .returned (.tuple #[.int .i64 k, .bool b]) ∧ w' = w ∧ ∀ m : Int, 0 ≤ m → m ≤ 200 → l = decJ m → k = m ∧ b = true

theorem at_byte {l : List UInt8} {k : Nat} {b : UInt8} (h : l[k]? = some b) (hk : k < (⟨l.toArray⟩ : ByteArray).size) : (⟨l.toArray⟩ : ByteArray)[k]'hk = b := by
  obtain ⟨h1, h2⟩ := List.getElem?_eq_some_iff.1 h
  rw [← h2]; rfl

set_option maxRecDepth 100000 in
set_option maxHeartbeats 2000000 in
theorem l11Num_any (w : World) (l : List UInt8) (hl : l.length ≤ 4000000) :
    Calls Tryd.prog 63 #[str l] w (NumS l w) := by
  cases hl0 : l with
  | nil =>
    go_enter Tryd.func63, Tryd.ntmps63
    go_wp2
    refine bodyPost_ret (v := .tuple #[.int .i64 0, .bool false]) (by simp [results, Tryd.results63, go_sem]) rfl ⟨0, false, rfl, rfl, fun m h1 h2 h => absurd rfl (isNumL h1 h2 h).ne⟩
  | cons b0 r =>
    rw [← hl0]
    have hb0 : l[0]? = some b0 := by rw [hl0]; rfl
    have hpos : 0 < l.length := by rw [hl0]; simp
    have hx0 := at_byte hb0 (by simp [ByteArray.size]; omega)
    have HH := Lib.hid (show l.head? = some b0 by rw [hl0]; rfl)
    clear hl0
    have q0 : (0 : Int) < (l.length : Int) := by omega
    by_cases h45 : b0 = 45
    · have HV := Lib.hid (show ∀ m : Int, 0 ≤ m → m ≤ 200 → ¬ l = decJ m from fun m h1 h2 h => (isNumL h1 h2 h).h45 (by rw [HH.out, h45]))
      obtain ⟨l1, hl1⟩ : ∃ l1, l1 = l.drop 1 := ⟨_, rfl⟩
      have he : (⟨l.toArray⟩ : ByteArray).extract 1 l.length = ⟨l1.toArray⟩ := by
        rw [hl1]
        apply ByteArray.ext
        simp
        rw [List.take_of_length_le (by simp)]
      have hn1 : l1.length ≤ 4000000 := by rw [hl1]; simp; omega
      have hq45 : ((b0.toNat : Int) == 45) = true := by rw [h45]; rfl
      clear hb0 HH hl1 h45
      have hpos' : ¬ (l.length : Int) < 1 := by omega
      cases hl0 : l1 with
      | nil =>
        subst hl0
        go_enter Tryd.func63, Tryd.ntmps63
        go_wp2
        refine bodyPost_ret (v := .tuple #[.int .i64 (0), .bool false]) (by simp [results, Tryd.results63, go_sem]) rfl ⟨0, false, rfl, rfl, fun m h1 h2 h => absurd h (HV.out m h1 h2)⟩
      | cons b1 r1 =>
        have hb1 : l1[0]? = some b1 := by rw [hl0]; rfl
        have hp1 : 0 < l1.length := by rw [hl0]; simp
        clear hl0
        have hx1 := at_byte hb1 (by simp [ByteArray.size]; omega)
        have hz1 : ((l1.length : Int) == 0) = false := beq_eq_false_iff_ne.2 (by omega)
        have q01 : (0 : Int) < (l1.length : Int) := by omega
        clear hb1
        by_cases h17 : 17 < l1.length
        · have h17i : (17 : Int) < (l1.length : Int) := by omega
          go_enter Tryd.func63, Tryd.ntmps63
          go_wp2
          refine bodyPost_ret (v := .tuple #[.int .i64 (0), .bool false]) (by simp [results, Tryd.results63, go_sem]) rfl ⟨0, false, rfl, rfl, fun m h1 h2 h => absurd h (HV.out m h1 h2)⟩
        have h17i : ¬ (17 : Int) < (l1.length : Int) := by omega
        by_cases h48 : b1 = 48
        · have hq : ((b1.toNat : Int) == 48) = true := by rw [h48]; rfl
          clear h48
          by_cases hn : 1 < l1.length
          · have q1 : (1 : Int) < (l1.length : Int) := by omega
            go_enter Tryd.func63, Tryd.ntmps63
            go_wp2
            refine bodyPost_ret (v := .tuple #[.int .i64 (0), .bool false]) (by simp [results, Tryd.results63, go_sem]) rfl ⟨0, false, rfl, rfl, fun m h1 h2 h => absurd h (HV.out m h1 h2)⟩
          · have q1 : ¬ (1 : Int) < (l1.length : Int) := by omega
            go_enter Tryd.func63, Tryd.ntmps63
            go_wp2
            refine bodyPost_ret (v := .tuple #[.int .i64 (0), .bool false]) (by simp [results, Tryd.results63, go_sem]) rfl ⟨0, false, rfl, rfl, fun m h1 h2 h => absurd h (HV.out m h1 h2)⟩
        · have hq : ((b1.toNat : Int) == 48) = false := beq_eq_false_iff_ne.2 (fun h => h48 (UInt8.toNat_inj.1 (show b1.toNat = 48 by omega)))
          clear h48
          go_enter Tryd.func63, Tryd.ntmps63
          go_wp2
          go_loop [5, 6] (fun n i => ∃ k : Nat, k ≤ l1.length ∧ i = .int .i64 k ∧ n = .int .i64 ((valJ (l1.take k) : Nat) : Int) ∧ valJ (l1.take k) < 10 ^ k) (fun _ i => l1.length - (intOf i).toNat)
          case atStart => exact ⟨0, Nat.zero_le _, rfl, rfl, by simp [valJ]⟩
          case round =>
            obtain ⟨k, hk, rfl, rfl, hv⟩ := hrel
            have hv17 : valJ (l1.take k) < 100000000000000000 := Nat.lt_of_lt_of_le hv (Nat.le_trans (Nat.pow_le_pow_right (by omega) (show k ≤ 17 by omega)) (by decide))
            by_cases hlt : k < l1.length
            · obtain ⟨b, hb⟩ : ∃ b, l1[k]? = some b := ⟨l1[k], List.getElem?_eq_getElem hlt⟩
              have HBK := Lib.hid hb
              have hx := at_byte hb (by simp [ByteArray.size]; omega)
              have HVN := Lib.hid (valJ_take hb)
              have HV10 := Lib.hid hv
              clear hb hv
              have hb256 : b.toNat < 256 := b.toNat_lt
              by_cases h48b : b.toNat < 48
              · have h48i : (b.toNat : Int) < 48 := by omega
                go_wp2
                refine bodyPost_ret (v := .tuple #[.int .i64 (0), .bool false]) (by simp [results, Tryd.results63, go_sem]) rfl ⟨0, false, rfl, rfl, fun m h1 h2 h => absurd h (HV.out m h1 h2)⟩
              by_cases h57 : 57 < b.toNat
              · have h57i : (57 : Int) < (b.toNat : Int) := by omega
                have h48i : ¬ (b.toNat : Int) < 48 := by omega
                go_wp2
                refine bodyPost_ret (v := .tuple #[.int .i64 (0), .bool false]) (by simp [results, Tryd.results63, go_sem]) rfl ⟨0, false, rfl, rfl, fun m h1 h2 h => absurd h (HV.out m h1 h2)⟩
              have h57i : ¬ (57 : Int) < (b.toNat : Int) := by omega
              have h48i : ¬ (b.toNat : Int) < 48 := by omega
              have hn1 : valJ (l1.take (k + 1)) = valJ (l1.take k) * 10 + (b.toNat - 48) := HVN.out
              have hn2 : valJ (l1.take (k + 1)) < 10 ^ (k + 1) := by rw [hn1, Nat.pow_succ]; have := HV10.out; omega
              have HN1 := Lib.hid hn1
              have HN2 := Lib.hid hn2
              clear hn1 hn2 HVN HV10
              generalize valJ (l1.take k) = v0 at HN1 hv17 ⊢
              go_wp2
              go_round
              case rel => exact ⟨k + 1, by omega, by go_num, congrArg (Value.int .i64) (by rw [HN1.out]; omega), HN2.out⟩
              case measure => simp [intOf]; omega
            · obtain rfl : k = l1.length := by omega
              rw [List.take_length]
              have hv2 : valJ l1 < 100000000000000000 := by rw [List.take_length] at hv17; exact hv17
              clear hv hv17
              go_wp2
              refine bodyPost_ret (v := .tuple #[.int .i64 (-((valJ l1 : Nat) : Int)), .bool true]) (by simp [results, Tryd.results63, go_sem]) rfl ⟨-((valJ l1 : Nat) : Int), true, rfl, rfl, fun m h1 h2 h => absurd h (HV.out m h1 h2)⟩
    · have hne : ((b0.toNat : Int) == 45) = false := beq_eq_false_iff_ne.2 (fun e => h45 (UInt8.toNat_inj.1 (show b0.toNat = 45 by omega)))
      have hz : ((l.length : Int) == 0) = false := beq_eq_false_iff_ne.2 (by omega)
      clear h45
      by_cases h17 : 17 < l.length
      · have h17i : (17 : Int) < (l.length : Int) := by omega
        go_enter Tryd.func63, Tryd.ntmps63
        go_wp2
        refine bodyPost_ret (v := .tuple #[.int .i64 (0), .bool false]) (by simp [results, Tryd.results63, go_sem]) rfl ⟨0, false, rfl, rfl, fun m h1 h2 h => absurd (isNumL h1 h2 h).len (by omega)⟩
      have h17i : ¬ (17 : Int) < (l.length : Int) := by omega
      by_cases h48 : b0 = 48
      · have hq : ((b0.toNat : Int) == 48) = true := by rw [h48]; rfl
        by_cases hn : 1 < l.length
        · have HV := Lib.hid (show ∀ m : Int, 0 ≤ m → m ≤ 200 → ¬ l = decJ m from fun m h1 h2 h => num48 (isNumL h1 h2 h) (by rw [HH.out, h48]) hn)
          clear h48
          have q1 : (1 : Int) < (l.length : Int) := by omega
          go_enter Tryd.func63, Tryd.ntmps63
          go_wp2
          refine bodyPost_ret (v := .tuple #[.int .i64 (0), .bool false]) (by simp [results, Tryd.results63, go_sem]) rfl ⟨0, false, rfl, rfl, fun m h1 h2 h => absurd h (HV.out m h1 h2)⟩
        · clear h48
          have q1 : ¬ (1 : Int) < (l.length : Int) := by omega
          go_enter Tryd.func63, Tryd.ntmps63
          go_wp2
          go_loop [5, 6] (fun n i => ∃ k : Nat, k ≤ l.length ∧ i = .int .i64 k ∧ n = .int .i64 ((valJ (l.take k) : Nat) : Int) ∧ valJ (l.take k) < 10 ^ k) (fun _ i => l.length - (intOf i).toNat)
          case atStart => exact ⟨0, Nat.zero_le _, rfl, rfl, by simp [valJ]⟩
          case round =>
            obtain ⟨k, hk, rfl, rfl, hv⟩ := hrel
            have hv17 : valJ (l.take k) < 100000000000000000 := Nat.lt_of_lt_of_le hv (Nat.le_trans (Nat.pow_le_pow_right (by omega) (show k ≤ 17 by omega)) (by decide))
            by_cases hlt : k < l.length
            · obtain ⟨b, hb⟩ : ∃ b, l[k]? = some b := ⟨l[k], List.getElem?_eq_getElem hlt⟩
              have HBK := Lib.hid hb
              have hx := at_byte hb (by simp [ByteArray.size]; omega)
              have HVN := Lib.hid (valJ_take hb)
              have HV10 := Lib.hid hv
              clear hb hv
              have hb256 : b.toNat < 256 := b.toNat_lt
              by_cases h48b : b.toNat < 48
              · have h48i : (b.toNat : Int) < 48 := by omega
                go_wp2
                refine bodyPost_ret (v := .tuple #[.int .i64 (0), .bool false]) (by simp [results, Tryd.results63, go_sem]) rfl ⟨0, false, rfl, rfl, fun m h1 h2 h => absurd ((isNumL h1 h2 h).dig b (List.mem_of_getElem? HBK.out)) (by omega)⟩
              by_cases h57 : 57 < b.toNat
              · have h57i : (57 : Int) < (b.toNat : Int) := by omega
                have h48i : ¬ (b.toNat : Int) < 48 := by omega
                go_wp2
                refine bodyPost_ret (v := .tuple #[.int .i64 (0), .bool false]) (by simp [results, Tryd.results63, go_sem]) rfl ⟨0, false, rfl, rfl, fun m h1 h2 h => absurd ((isNumL h1 h2 h).dig b (List.mem_of_getElem? HBK.out)) (by omega)⟩
              have h57i : ¬ (57 : Int) < (b.toNat : Int) := by omega
              have h48i : ¬ (b.toNat : Int) < 48 := by omega
              have hn1 : valJ (l.take (k + 1)) = valJ (l.take k) * 10 + (b.toNat - 48) := HVN.out
              have hn2 : valJ (l.take (k + 1)) < 10 ^ (k + 1) := by rw [hn1, Nat.pow_succ]; have := HV10.out; omega
              have HN1 := Lib.hid hn1
              have HN2 := Lib.hid hn2
              clear hn1 hn2 HVN HV10
              generalize valJ (l.take k) = v0 at HN1 hv17 ⊢
              go_wp2
              go_round
              case rel => exact ⟨k + 1, by omega, by go_num, congrArg (Value.int .i64) (by rw [HN1.out]; omega), HN2.out⟩
              case measure => simp [intOf]; omega
            · obtain rfl : k = l.length := by omega
              rw [List.take_length]
              have hv2 : valJ l < 100000000000000000 := by rw [List.take_length] at hv17; exact hv17
              clear hv hv17
              go_wp2
              refine bodyPost_ret (v := .tuple #[.int .i64 (((valJ l : Nat) : Int)), .bool true]) (by simp [results, Tryd.results63, go_sem]) rfl ⟨((valJ l : Nat) : Int), true, rfl, rfl, fun m h1 h2 h => ⟨(isNumL h1 h2 h).val, rfl⟩⟩
      · have hq : ((b0.toNat : Int) == 48) = false := beq_eq_false_iff_ne.2 (fun h => h48 (UInt8.toNat_inj.1 (show b0.toNat = 48 by omega)))
        clear h48
        go_enter Tryd.func63, Tryd.ntmps63
        go_wp2
        go_loop [5, 6] (fun n i => ∃ k : Nat, k ≤ l.length ∧ i = .int .i64 k ∧ n = .int .i64 ((valJ (l.take k) : Nat) : Int) ∧ valJ (l.take k) < 10 ^ k) (fun _ i => l.length - (intOf i).toNat)
        case atStart => exact ⟨0, Nat.zero_le _, rfl, rfl, by simp [valJ]⟩
        case round =>
          obtain ⟨k, hk, rfl, rfl, hv⟩ := hrel
          have hv17 : valJ (l.take k) < 100000000000000000 := Nat.lt_of_lt_of_le hv (Nat.le_trans (Nat.pow_le_pow_right (by omega) (show k ≤ 17 by omega)) (by decide))
          by_cases hlt : k < l.length
          · obtain ⟨b, hb⟩ : ∃ b, l[k]? = some b := ⟨l[k], List.getElem?_eq_getElem hlt⟩
            have HBK := Lib.hid hb
            have hx := at_byte hb (by simp [ByteArray.size]; omega)
            have HVN := Lib.hid (valJ_take hb)
            have HV10 := Lib.hid hv
            clear hb hv
            have hb256 : b.toNat < 256 := b.toNat_lt
            by_cases h48b : b.toNat < 48
            · have h48i : (b.toNat : Int) < 48 := by omega
              go_wp2
              refine bodyPost_ret (v := .tuple #[.int .i64 (0), .bool false]) (by simp [results, Tryd.results63, go_sem]) rfl ⟨0, false, rfl, rfl, fun m h1 h2 h => absurd ((isNumL h1 h2 h).dig b (List.mem_of_getElem? HBK.out)) (by omega)⟩
            by_cases h57 : 57 < b.toNat
            · have h57i : (57 : Int) < (b.toNat : Int) := by omega
              have h48i : ¬ (b.toNat : Int) < 48 := by omega
              go_wp2
              refine bodyPost_ret (v := .tuple #[.int .i64 (0), .bool false]) (by simp [results, Tryd.results63, go_sem]) rfl ⟨0, false, rfl, rfl, fun m h1 h2 h => absurd ((isNumL h1 h2 h).dig b (List.mem_of_getElem? HBK.out)) (by omega)⟩
            have h57i : ¬ (57 : Int) < (b.toNat : Int) := by omega
            have h48i : ¬ (b.toNat : Int) < 48 := by omega
            have hn1 : valJ (l.take (k + 1)) = valJ (l.take k) * 10 + (b.toNat - 48) := HVN.out
            have hn2 : valJ (l.take (k + 1)) < 10 ^ (k + 1) := by rw [hn1, Nat.pow_succ]; have := HV10.out; omega
            have HN1 := Lib.hid hn1
            have HN2 := Lib.hid hn2
            clear hn1 hn2 HVN HV10
            generalize valJ (l.take k) = v0 at HN1 hv17 ⊢
            go_wp2
            go_round
            case rel => exact ⟨k + 1, by omega, by go_num, congrArg (Value.int .i64) (by rw [HN1.out]; omega), HN2.out⟩
            case measure => simp [intOf]; omega
          · obtain rfl : k = l.length := by omega
            rw [List.take_length]
            have hv2 : valJ l < 100000000000000000 := by rw [List.take_length] at hv17; exact hv17
            clear hv hv17
            go_wp2
            refine bodyPost_ret (v := .tuple #[.int .i64 (((valJ l : Nat) : Int)), .bool true]) (by simp [results, Tryd.results63, go_sem]) rfl ⟨((valJ l : Nat) : Int), true, rfl, rfl, fun m h1 h2 h => ⟨(isNumL h1 h2 h).val, rfl⟩⟩

end Go.Proofs.YthdclaljgimclaaDoor
