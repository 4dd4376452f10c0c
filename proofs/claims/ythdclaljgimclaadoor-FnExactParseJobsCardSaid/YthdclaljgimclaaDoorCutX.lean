/- Contract of the reference's cut of a string at a byte: it returns the pieces, in memory of its own. -/
import Derived.Test.YthdclaljgimclaaDoorOwS
import Derived.Test.YthdclaljgimclaaDoorM2
import Derived.Lib.Strings
import Derived.LoopTactic
namespace Go.Proofs.YthdclaljgimclaaDoor
open Go.RowKit

theorem ext_str (l : List UInt8) (f k : Nat) : (⟨l.toArray⟩ : ByteArray).extract f k = ⟨((l.drop f).take (k - f)).toArray⟩ := by
  apply ByteArray.ext
  simp

def CutInv (c : UInt8) (l : List UInt8) (os : List (List UInt8)) (f k : Nat) : Prop :=
  os.length ≤ k ∧ ((k ≤ l.length ∧ f ≤ k ∧ os ++ glue ((l.drop f).take (k - f)) (pieces c (l.drop k)) = pieces c l) ∨ (k = l.length + 1 ∧ f = k ∧ os = pieces c l))

theorem inv_start (c : UInt8) (l : List UInt8) : CutInv c l [] 0 0 := by
  refine ⟨by simp, .inl ⟨Nat.zero_le _, Nat.le_refl _, ?_⟩⟩
  rw [List.drop_zero, List.take_zero, glue_nil]
  rfl
theorem take_more {l : List UInt8} {f k : Nat} {b : UInt8} (hb : l[k]? = some b) (hf : f ≤ k) : (l.drop f).take (k + 1 - f) = (l.drop f).take (k - f) ++ [b] := by
  have h : (l.drop f)[k - f]? = some b := by rw [List.getElem?_drop, show f + (k - f) = k by omega]; exact hb
  obtain ⟨hk, hv⟩ := List.getElem?_eq_some_iff.1 h
  rw [show k + 1 - f = (k - f) + 1 by omega, List.take_succ_eq_append_getElem hk, hv]
theorem drop_one {l : List UInt8} {k : Nat} {b : UInt8} (hb : l[k]? = some b) : l.drop k = b :: l.drop (k + 1) := by
  obtain ⟨hk, rfl⟩ := List.getElem?_eq_some_iff.1 hb
  exact List.drop_eq_getElem_cons hk
theorem inv_hit {c b : UInt8} {l : List UInt8} {os : List (List UInt8)} {f k : Nat} (hol : os.length ≤ k) (hb : l[k]? = some b) (hbc : b = c) (he : os ++ glue ((l.drop f).take (k - f)) (pieces c (l.drop k)) = pieces c l) :
    CutInv c l (os ++ [(l.drop f).take (k - f)]) (k + 1) (k + 1) := by
  have hk := (List.getElem?_eq_some_iff.1 hb).1
  refine ⟨by simp; omega, .inl ⟨by omega, Nat.le_refl _, ?_⟩⟩
  rw [Nat.sub_self, List.take_zero, glue_nil, ← he, drop_one hb, glue_hit hbc]
  simp
theorem inv_miss {c b : UInt8} {l : List UInt8} {os : List (List UInt8)} {f k : Nat} (hol : os.length ≤ k) (hb : l[k]? = some b) (hbc : ¬ b = c) (hf : f ≤ k) (he : os ++ glue ((l.drop f).take (k - f)) (pieces c (l.drop k)) = pieces c l) :
    CutInv c l os f (k + 1) := by
  have hk := (List.getElem?_eq_some_iff.1 hb).1
  refine ⟨by omega, .inl ⟨by omega, by omega, ?_⟩⟩
  rw [take_more hb hf, ← glue_miss hbc, ← drop_one hb, he]
theorem inv_end {c : UInt8} {l : List UInt8} {os : List (List UInt8)} {f k : Nat} (hol : os.length ≤ k) (hk : k = l.length) (he : os ++ glue ((l.drop f).take (k - f)) (pieces c (l.drop k)) = pieces c l) :
    CutInv c l (os ++ [(l.drop f).take (k - f)]) (k + 1) (k + 1) := by
  refine ⟨by simp; omega, .inr ⟨by omega, rfl, ?_⟩⟩
  rw [← he, hk, List.drop_length]
  simp [pieces, glue]

set_option maxRecDepth 100000 in
set_option maxHeartbeats 2000000 in
theorem l11Cut_any (w : World) (l : List UInt8) (c : UInt8) (hl : l.length ≤ 2000000) :
    Calls Tryd.prog 39 #[str l, .int .u8 (c.toNat : Int)] w fun e w' => ∃ v, e = .returned v ∧ OwnS w' w.heap.size v (pieces c l) ∧ Below w.heap.size w w' := by
  obtain ⟨i0, hi, hz0, hz1, hz2⟩ := info_parts info_str
  go_enter Tryd.func39, Tryd.ntmps39
  go_wp2
  go_loopw [5, 6, 7] (fun v f i wr => ∃ (os : List (List UInt8)) (f' k : Nat), f = .int .i64 f' ∧ i = .int .i64 k ∧ Hid (CutInv c l os f' k) ∧ OwnS wr w.heap.size v os ∧ Below w.heap.size w wr) (fun _ _ i _ => l.length + 2 - (intOf i).toNat)
  case atStart => exact ⟨[], 0, 0, rfl, rfl, inv_start c l, ⟨rfl, .inr ⟨w.heap.size, 0, #[], rfl, Nat.le_refl _, heap_alloc_new w _, Nat.le_refl _, Nat.zero_le _, rfl, rfl⟩⟩, bl_alloc (Below.refl _ _) _⟩
  case round =>
    obtain ⟨os, f, k, rfl, rfl, hI, ho, hb⟩ := hrel
    have HO := Lib.hid ho
    have HB := Lib.hid hb
    have hsz : w.heap.size ≤ wr.heap.size := hb.size
    clear ho hb
    obtain ⟨hol, hI2⟩ := hI.out
    rcases hI2 with ⟨hk, hf, he⟩ | ⟨hk, hf, he⟩
    · have HE := Lib.hid he
      clear he hI
      have b1 : os.length + 1 ≤ maxLen := by unfold maxLen; omega
      have b2 : (os.length + 1) * 16 ≤ 140737488355328 := by omega
      by_cases hlt : k < l.length
      · obtain ⟨b, hb⟩ : ∃ b, l[k]? = some b := ⟨l[k], List.getElem?_eq_getElem hlt⟩
        have HBK := Lib.hid hb
        have hx : (⟨l.toArray⟩ : ByteArray)[k]'(by simp [ByteArray.size]; omega) = b := by
          obtain ⟨h1, h2⟩ := List.getElem?_eq_some_iff.1 hb
          rw [← h2]; rfl
        have hkl : ((k : Int) == (l.length : Int)) = false := beq_eq_false_iff_ne.2 (by omega)
        clear hb
        by_cases hbc : b = c
        · have HC := Lib.hid hbc
          rw [hbc] at hx
          clear hbc
          go_wp2_with (at_builtin; refine wpList_append_own _ rfl (.tmp 26) (.tmp 31) 49 rfl w.heap.size 9 i0 _ 1 16 Tryd.underlying49 hi hz0 hz1 hz2 rfl (by decide) _ os.length (os.map fun x => (str x : Value)) rfl (World.ownsRow.alloc HO.out _) ⟨wr.heap.size, 0, none⟩ 1 1 [.string ((⟨l.toArray⟩ : ByteArray).extract f k)] rfl rfl (by have hx := cell_one_new wr (.string ((⟨l.toArray⟩ : ByteArray).extract f k)) 9; simpa using hx) (by intro u hu; simp at hu; subst hu; rfl) b1 b2 (by simp; omega) ?_; intro v' w4 hown' hgrow _)
          rw [ext_str] at hown'
          have HO4 := Lib.hid (OwnS.snoc hown')
          have HB4 := Lib.hid ((bl_alloc HB.out _).grown hgrow (by simp; omega) (fun k e => (World.ownsRow.lt HO.out k e).1))
          clear hown' hgrow
          have HI : Hid (CutInv c l (os ++ [(l.drop f).take (k - f)]) (k + 1) (k + 1)) := inv_hit hol HBK.out HC.out HE.out
          go_wp2
          go_roundw
          case rel => exact ⟨_, k + 1, k + 1, by go_num, by go_num, HI, HO4.out, HB4.out⟩
          case measure => simp [intOf]; omega
        · have HC := Lib.hid hbc
          have hne : ((b.toNat : Int) == (c.toNat : Int)) = false := beq_eq_false_iff_ne.2 (fun e => hbc (by
            have : b.toNat = c.toNat := by omega
            exact UInt8.toNat_inj.1 this))
          have hne2 : ¬ b.toNat = c.toNat := fun e => hbc (UInt8.toNat_inj.1 e)
          clear hbc
          have HI : Hid (CutInv c l os f (k + 1)) := inv_miss hol HBK.out HC.out hf HE.out
          go_wp2
          go_roundw
          case rel => exact ⟨_, f, k + 1, rfl, by go_num, HI, HO.out, HB.out⟩
          case measure => simp [intOf]; omega
      · have hkl : k = l.length := by omega
        have HI : Hid (CutInv c l (os ++ [(l.drop f).take (k - f)]) (k + 1) (k + 1)) := inv_end hol hkl HE.out
        have hkl2 : ((k : Int) == (l.length : Int)) = true := beq_iff_eq.2 (by omega)
        have hx : (k : Int) ≤ (l.length : Int) := by omega
        clear hkl
        go_wp2_with (at_builtin; refine wpList_append_own _ rfl (.tmp 26) (.tmp 31) 49 rfl w.heap.size 9 i0 _ 1 16 Tryd.underlying49 hi hz0 hz1 hz2 rfl (by decide) _ os.length (os.map fun x => (str x : Value)) rfl (World.ownsRow.alloc HO.out _) ⟨wr.heap.size, 0, none⟩ 1 1 [.string ((⟨l.toArray⟩ : ByteArray).extract f k)] rfl rfl (by have hx := cell_one_new wr (.string ((⟨l.toArray⟩ : ByteArray).extract f k)) 9; simpa using hx) (by intro u hu; simp at hu; subst hu; rfl) b1 b2 (by simp; omega) ?_; intro v' w4 hown' hgrow _)
        rw [ext_str] at hown'
        have HO4 := Lib.hid (OwnS.snoc hown')
        have HB4 := Lib.hid ((bl_alloc HB.out _).grown hgrow (by simp; omega) (fun k e => (World.ownsRow.lt HO.out k e).1))
        clear hown' hgrow
        go_wp2
        go_roundw
        case rel => exact ⟨_, k + 1, k + 1, by go_num, by go_num, HI, HO4.out, HB4.out⟩
        case measure => simp [intOf]; omega
    · subst he
      have hnk : ¬ ((k : Int) ≤ (l.length : Int)) := by omega
      go_wp2
      go_ret
      exact ⟨_, rfl, HO.out, HB.out⟩

theorem cut_at (w : World) (l : List UInt8) (c : UInt8) (n : Int) (hn : n = (c.toNat : Int)) (hl : l.length ≤ 2000000) :
    Calls Tryd.prog 39 #[str l, .int .u8 n] w fun e w' => ∃ v, e = .returned v ∧ OwnS w' w.heap.size v (pieces c l) ∧ Below w.heap.size w w' := by
  subst hn
  exact l11Cut_any w l c hl

end Go.Proofs.YthdclaljgimclaaDoor
