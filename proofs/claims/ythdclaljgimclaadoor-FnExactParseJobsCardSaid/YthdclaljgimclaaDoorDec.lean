/- Contract of the reference's numerals: it returns the decimal digits, and writes nothing that was there. -/
import Derived.Test.YthdclaljgimclaaDoorM1
import Derived.Lib.ItoaNum
import Derived.Laws.IdiomStrings
import Derived.Laws.Concat
namespace Go.Proofs.YthdclaljgimclaaDoor
open Go.RowKit

/-- A string of the bytes l. -/
abbrev str (l : List UInt8) : Value := .string ⟨l.toArray⟩
def StrRes (l : List UInt8) (w : World) (e : Ending) (w' : World) : Prop := e = .returned (str l) ∧ Below w.heap.size w w'

theorem dec_step {k : Nat} (h : ¬ k < 10) : Lib.decDigits k = Lib.decDigits (k / 10) ++ [UInt8.ofNat (48 + k % 10)] := by rw [Lib.decDigits, dif_neg h]

theorem dec_hid {m x : Nat} {o : List UInt8} (hg : Hid (Lib.decDigits m = Lib.decDigits x ++ o)) (h0 : 9 < x) : Hid (Lib.decDigits m = Lib.decDigits (x / 10) ++ ((48 + UInt8.ofNat (x % 10)) :: o)) := by
  show _ = _
  rw [hg.out, dec_step (by omega)]
  simp

theorem digits_le : ∀ (k u : Nat), u < 10 ^ (k + 1) → Lib.nDigits u ≤ k + 1
  | 0, u, h => by rw [Lib.nDigits_small (by simpa using h)]; omega
  | k + 1, u, h => by
    by_cases b : u < 10
    · rw [Lib.nDigits_small b]; omega
    · rw [Lib.nDigits_big b]
      have := digits_le k (u / 10) (by rw [Nat.pow_succ] at h; omega)
      omega
theorem hid_len {m x : Nat} {o : List UInt8} (hm : m ≤ 4000000000) (hg : Hid (Lib.decDigits m = Lib.decDigits x ++ o)) : o.length ≤ 10 := by
  have h := congrArg List.length hg.out
  rw [List.length_append, Lib.decDigits_length, Lib.decDigits_length] at h
  have h1 := digits_le 9 m (by omega)
  omega

theorem conv_digit (w : World) (d : Int) (h0 : 0 ≤ d) (h1 : d < 10) :
    (convert 22 9 (.slice (some ⟨w.heap.size, 0, none⟩) 1 1)).run Tryd.prog (w.alloc (.cells #[.int .u8 (48 + d)] 5)) = .ok (str [UInt8.ofNat (48 + d.toNat)]) (w.alloc (.cells #[.int .u8 (48 + d)] 5)) := by
  refine run_convert_bytes_back _ _ _ 5 _ _ [UInt8.ofNat (48 + d.toNat)] Tryd.underlying22 Tryd.underlying5 Tryd.underlying9 ?_
  intro j hj
  obtain rfl : j = 0 := by simp at hj; exact hj
  have hz : (⟨w.heap.size, 0, none⟩ : Addr).add 0 = ⟨w.heap.size, 0, none⟩ := by unfold Addr.add; split <;> simp_all
  rw [hz, (Blk.new w 5 _).cell 0]
  simp
  omega

set_option maxRecDepth 100000 in
set_option maxHeartbeats 1000000 in
theorem l11Dec_any (w : World) (m : Nat) (hm : m ≤ 4000000000) :
    Calls Tryd.prog 33 #[.int .i64 m] w (StrRes (Lib.decDigits m) w) := by
  have hd : Hid (Lib.decDigits m = Lib.decDigits m ++ []) := by show _ = _; simp
  go_enter Tryd.func33, Tryd.ntmps33
  go_wp2
  go_loopw [0, 3] (fun u v wr => ∃ (x : Nat) (o : List UInt8), x ≤ 4000000000 ∧ o.length ≤ 20 ∧ u = .int .i64 x ∧ v = str o ∧ Hid (Lib.decDigits m = Lib.decDigits x ++ o) ∧ Below w.heap.size w wr) (fun u _ _ => (intOf u).toNat)
  case atStart => exact ⟨m, [], hm, by simp, rfl, rfl, hd, Below.refl _ _⟩
  case round =>
    obtain ⟨x, o, hx, ho, rfl, rfl, hg, hbl⟩ := hrel
    have HB := Lib.hid hbl
    clear hbl
    by_cases h0 : 9 < x
    · have hc := conv_digit wr ((x : Int) % 10) (by omega) (by omega)
      go_wp2
      go_roundw
      case rel => exact ⟨x / 10, (48 + UInt8.ofNat (x % 10)) :: o, by omega, Nat.le_trans (hid_len hm (dec_hid hg h0)) (by omega), by go_num, congrArg Value.string (ByteArray.mk_append_mk [48 + UInt8.ofNat (x % 10)] o), dec_hid hg h0, bl_alloc HB.out _⟩
      case measure => simp [intOf]; omega
    · have hc := conv_digit wr (x : Int) (by omega) (by omega)
      go_wp2
      go_ret
      refine ⟨congrArg Ending.returned ((congrArg Value.string (ByteArray.mk_append_mk [48 + UInt8.ofNat x] o)).trans ?_), bl_alloc HB.out _⟩
      rw [hg.out, Lib.decDigits_one (by omega)]
      simp

end Go.Proofs.YthdclaljgimclaaDoor
