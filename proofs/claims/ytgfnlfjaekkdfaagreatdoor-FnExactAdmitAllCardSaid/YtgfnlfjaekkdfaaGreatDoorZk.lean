/- Contracts of the marks that the exact laws write into a list of numbers. -/
import Derived.Test.YtgfnlfjaekkdfaaGreatDoorNB
import Derived.LoopTactic
namespace Go.Proofs.YtgfnlfjaekkdfaaGreatDoor
open Go.RowKit
set_option linter.unusedVariables false

def marksZ (k0 n : Nat) : List Int := (List.range n).map fun j => ((k0 + j : Nat) : Int)
theorem marksZ_len (k0 n : Nat) : (marksZ k0 n).length = n := by simp [marksZ]
theorem marksZ_get {k0 n j : Nat} (h : j < n) : (marksZ k0 n)[j]? = some ((k0 + j : Nat) : Int) := by
  unfold marksZ; rw [List.getElem?_map, List.getElem?_range h]; rfl
theorem marksZ_succ (k0 j : Nat) : marksZ k0 (j + 1) = marksZ k0 j ++ [((k0 + j : Nat) : Int)] := by
  unfold marksZ; rw [List.range_succ, List.map_append]; rfl
theorem marksZ_put {zs : List Int} {k0 j : Nat} (h : j < zs.length) : (marksZ k0 j ++ zs.drop j).set j ((k0 + j : Nat) : Int) = marksZ k0 (j + 1) ++ zs.drop (j + 1) := by
  rw [List.set_append_right _ _ (by rw [marksZ_len]; omega), marksZ_len, Nat.sub_self, List.drop_eq_getElem_cons h, List.set_cons_zero, marksZ_succ, List.append_assoc]
  rfl
def MarkZRes (k0 n B : Nat) (v : Value) (w : World) (e : Ending) (w' : World) : Prop :=
  e = .returned (.int .i64 ((k0 + n : Nat) : Int)) ∧ OwnZ w' B v (marksZ k0 n) ∧ w.grownBy w' v.ownBlock

set_option maxHeartbeats 2000000 in
theorem markZ_own (w : World) (B : Nat) (A : Option Addr) (c k0 : Nat) (zs : List Int) (h : OwnZ w B (.slice A zs.length c) zs) (hn : zs.length ≤ 1048576) (hk0 : k0 ≤ 40000000) :
    Calls Tryz.prog 26 #[.slice A zs.length c, .int .i64 k0] w (MarkZRes k0 zs.length B (.slice A zs.length c) w) := by
  rcases h.2 with ⟨e, h0⟩ | ⟨g, cap, cur, e, _⟩
  · injection e with e1 e2 e3
    subst e1 e3
    have hnil : zs = [] := List.eq_nil_of_length_eq_zero e2
    subst hnil
    go_enter Tryz.func26, Tryz.ntmps26
    go_wp2
    go_loop [1, 5] (fun q i => q = .int .i64 k0 ∧ i = .int .i64 0) (fun _ _ => 0)
    case atStart => exact ⟨rfl, rfl⟩
    case round =>
      obtain ⟨rfl, rfl⟩ := hrel
      go_wp2
      go_ret
      exact ⟨rfl, h, World.grownBy.refl _ _⟩
  · injection e with e1 e2 e3
    subst e1
    obtain ⟨n, hnn⟩ : ∃ n, n = zs.length := ⟨_, rfl⟩
    have H := Lib.hid h
    have HL := Lib.hid hnn
    rw [← hnn] at hn ⊢
    rw [← hnn] at H
    clear h e2 hnn
    go_enter Tryz.func26, Tryz.ntmps26
    go_wp2
    go_loopw [1, 5] (fun q i wr => ∃ j : Nat, j ≤ n ∧ i = .int .i64 j ∧ q = .int .i64 ((k0 + j : Nat) : Int) ∧ OwnZ wr B (.slice (some ⟨g, 0, none⟩) n c) (marksZ k0 j ++ zs.drop j) ∧ w.grownBy wr (some g)) (fun _ i _ => n - (intOf i).toNat)
    case atStart => exact ⟨0, Nat.zero_le _, rfl, rfl, H.out, World.grownBy.refl _ _⟩
    case round =>
      obtain ⟨j, hj, rfl, rfl, ho, hg⟩ := hrel
      have HO := Lib.hid ho
      have HG := Lib.hid hg
      clear ho hg
      by_cases hlt : j < n
      · have hjl : j < zs.length := by rw [← HL.out]; exact hlt
        have HP := Lib.hid (marksZ_put (k0 := k0) hjl)
        have hll : Hid ((marksZ k0 j ++ zs.drop j).length = n) := by show _ = _; have := HL.out; simp [marksZ_len]; omega
        obtain ⟨z, hz⟩ : ∃ z, (marksZ k0 j ++ zs.drop j)[j]? = some z := ⟨_, List.getElem?_eq_getElem (by rw [hll.out]; exact hlt)⟩
        have hrd : Zs wr wr.heap.size (some ⟨g, 0, none⟩) (marksZ k0 j ++ zs.drop j).length (marksZ k0 j ++ zs.drop j) := OwnZ.reads (c := c) (by rw [hll.out]; exact HO.out)
        have c0 := (hrd.get hz).2
        rw [Nat.zero_add] at c0
        have hfz := HO.out.frozen
        have hji : (j : Int) < (n : Int) := by omega
        clear hz hrd hjl
        go_wp2
        go_roundw
        case rel =>
          refine ⟨j + 1, by omega, by go_num, by go_num, ?_, ?_⟩
          · rw [← HP.out]
            have hx := HO.out.put j ((k0 + j : Nat) : Int)
            exact hx
          · repeat (first | exact HG.out | refine gb_set ?_ (.inl rfl) _)
        case measure => simp [intOf]; omega
      · obtain rfl : j = n := by omega
        go_wp2
        go_ret
        exact ⟨rfl, by have h := HO.out; rw [List.drop_eq_nil_of_le (by rw [← HL.out]; omega), List.append_nil] at h; exact h, HG.out⟩

set_option maxHeartbeats 2000000 in
theorem heldZ_any (w : World) (A : Option Addr) (n c k0 : Nat) (h : Zs w w.heap.size A n (marksZ k0 n)) (hn : n ≤ 1048576) (hk0 : k0 ≤ 10) :
    Calls Tryz.prog 28 #[.slice A n c, .int .i64 k0] w fun e w' => e = .returned (.int .i64 ((k0 + n : Nat) : Int)) ∧ w = w' := by
  have H := Lib.hid h
  clear h
  go_enter Tryz.func28, Tryz.ntmps28
  go_wp2
  go_loop [1, 5] (fun q i => ∃ j : Nat, j ≤ n ∧ i = .int .i64 j ∧ q = .int .i64 ((k0 + j : Nat) : Int)) (fun _ i => n - (intOf i).toNat)
  case atStart => exact ⟨0, Nat.zero_le _, rfl, rfl⟩
  case round =>
    obtain ⟨j, hj, rfl, rfl⟩ := hrel
    by_cases hlt : j < n
    · obtain ⟨b, o, rfl, hbl, c0⟩ := H.out.at_ j _ (marksZ_get hlt)
      have e0 : w.cell? ⟨b, o + j, none⟩ = some (.int .i64 ((k0 : Int) + (j : Int))) := c0
      clear c0
      have hji : (j : Int) < (n : Int) := by omega
      go_wp2
      go_round
      case rel => exact ⟨j + 1, by omega, by go_num, by go_num⟩
      case measure => simp [intOf]; omega
    · obtain rfl : j = n := by omega
      go_wp2
      go_ret
      exact ⟨rfl, rfl⟩

end Go.Proofs.YtgfnlfjaekkdfaaGreatDoor
