/- The walks of the exact laws of OrderValid and PutOrder. -/
import Derived.Test.YtgoblabcggbfjaaLwX4z
import Derived.Test.YtgoblabcggbfjaaMC
namespace Go.Proofs.Ytgoblabcggbfjaa
open Go.RowKit
set_option linter.unusedVariables false

set_option maxHeartbeats 2000000 in
theorem markZ_big (w : World) (B : Nat) (A : Option Addr) (c k0 : Nat) (zs : List Int) (h : OwnZ w B (.slice A zs.length c) zs) (hn : zs.length ≤ 1048576) (hk0 : k0 ≤ 10000000) :
    Calls Try.prog 46 #[.slice A zs.length c, .int .i64 k0] w (MarkZRes k0 zs.length B (.slice A zs.length c) w) := by
  rcases h.2 with ⟨e, h0⟩ | ⟨g, cap, cur, e, _⟩
  · injection e with e1 e2 e3
    subst e1 e3
    have hnil : zs = [] := List.eq_nil_of_length_eq_zero e2
    subst hnil
    go_enter Try.func46, Try.ntmps46
    go_wp2
    go_loop [1, 5] (fun q i => q = .int .i64 k0 ∧ i = .int .i64 0) (fun _ _ => 0)
    case atStart => exact ⟨rfl, rfl⟩
    case round =>
      obtain ⟨rfl, rfl⟩ := hrel
      go_wp2
      go_ret
      exact ⟨rfl, h, World.grownBy.refl _ _⟩
  · injection e with e1 e2 e3
    subst e1
    obtain ⟨n, hnn⟩ : ∃ n, n = zs.length := ⟨_, rfl⟩
    have H := Lib.hid h
    have HL := Lib.hid hnn
    rw [← hnn] at hn ⊢
    rw [← hnn] at H
    clear h e2 hnn
    go_enter Try.func46, Try.ntmps46
    go_wp2
    go_loopw [1, 5] (fun q i wr => ∃ j : Nat, j ≤ n ∧ i = .int .i64 j ∧ q = .int .i64 ((k0 + j : Nat) : Int) ∧ OwnZ wr B (.slice (some ⟨g, 0, none⟩) n c) (marksZ k0 j ++ zs.drop j) ∧ w.grownBy wr (some g)) (fun _ i _ => n - (intOf i).toNat)
    case atStart => exact ⟨0, Nat.zero_le _, rfl, rfl, H.out, World.grownBy.refl _ _⟩
    case round =>
      obtain ⟨j, hj, rfl, rfl, ho, hg⟩ := hrel
      have HO := Lib.hid ho
      have HG := Lib.hid hg
      clear ho hg
      by_cases hlt : j < n
      · have hjl : j < zs.length := by rw [← HL.out]; exact hlt
        have HP := Lib.hid (marksZ_put (k0 := k0) hjl)
        have hll : Hid ((marksZ k0 j ++ zs.drop j).length = n) := by show _ = _; have := HL.out; simp [marksZ_len]; omega
        obtain ⟨z, hz⟩ : ∃ z, (marksZ k0 j ++ zs.drop j)[j]? = some z := ⟨_, List.getElem?_eq_getElem (by rw [hll.out]; exact hlt)⟩
        have hrd : Zs wr wr.heap.size (some ⟨g, 0, none⟩) (marksZ k0 j ++ zs.drop j).length (marksZ k0 j ++ zs.drop j) := OwnZ.reads (c := c) (by rw [hll.out]; exact HO.out)
        have c0 := (hrd.get hz).2
        rw [Nat.zero_add] at c0
        have hfz := HO.out.frozen
        have hji : (j : Int) < (n : Int) := by omega
        clear hz hrd hjl
        go_wp2
        go_roundw
        case rel =>
          refine ⟨j + 1, by omega, by go_num, by go_num, ?_, ?_⟩
          · rw [← HP.out]
            have hx := HO.out.put j ((k0 + j : Nat) : Int)
            exact hx
          · repeat (first | exact HG.out | refine gb_set ?_ (.inl rfl) _)
        case measure => simp [intOf]; omega
      · obtain rfl : j = n := by omega
        go_wp2
        go_ret
        exact ⟨rfl, by have h := HO.out; rw [List.drop_eq_nil_of_le (by rw [← HL.out]; omega), List.append_nil] at h; exact h, HG.out⟩


end Go.Proofs.Ytgoblabcggbfjaa
