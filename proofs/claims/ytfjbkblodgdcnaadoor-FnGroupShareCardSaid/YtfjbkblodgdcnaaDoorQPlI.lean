/- Contract of the program's placesWhere over numbers, whatever it is asked. Nothing that was there is written. -/
import Derived.Test.YtfjbkblodgdcnaaDoorNA
import Derived.Test.YtfjbkblodgdcnaaDoorNB
import Derived.Test.YtfjbkblodgdcnaaDoorPli
import Derived.Shelf.Abstract
import Derived.WalkMore
import Derived.LoopTactic
namespace Go.Proofs.YtfjbkblodgdcnaaDoor
open Go.RowKit
set_option linter.unusedVariables false

set_option maxRecDepth 100000 in
set_option maxHeartbeats 4000000 in
theorem iPlI_is (w : World) (A2 : Option Addr) (m c2 : Nat) (xs : List Int) (h2 : Zs w w.heap.size A2 m xs) (hm : m ≤ 1100000) (k : Nat) (cap : Array Value) (P : Nat → Bool)
    (ek : ∀ args w, (callFunc k args).run Tryd.prog w = .ok (.enter k args) w)
    (hfn : ∀ (W : World) (q : Nat) (j : Int), xs[q]? = some j → Below w.heap.size w W → Calls Tryd.prog k (#[.int .i64 (q : Int), .int .i64 j] ++ cap) W fun e W' => e = .returned (.bool (P q)) ∧ Below W.heap.size W W') :
    Calls Tryd.prog 100 #[.slice A2 m c2, .func (.func k) #[] cap] w (ZsRes (placesI P m) w) := by
  obtain ⟨i0, hi, hz0, hz1, hz2⟩ := info_parts info_int
  have J := Lib.hid h2
  have HM := Lib.hid h2.len
  have HFN := Lib.hid hfn
  clear h2 hfn
  go_enter Tryd.func100, Tryd.ntmps100
  go_wp2
  go_loopw [5, 10] (fun v i wr => ∃ q : Nat, ∃ zs : List Int, q ≤ m ∧ i = .int .i64 q ∧ zs.length ≤ q ∧ Hid (zs = placesI P q) ∧ Hid (OwnZ wr w.heap.size v zs) ∧ Hid (Below w.heap.size w wr)) (fun _ i _ => m - (intOf i).toNat)
  case atStart => exact ⟨0, [], Nat.zero_le _, rfl, Nat.le_refl _, Lib.hid rfl, Lib.hid ⟨rfl, .inl ⟨rfl, rfl⟩⟩, Lib.hid (Below.refl _ _)⟩
  case round =>
    obtain ⟨q, zs, hq, rfl, hzl, HZ, HO, HB⟩ := hrel
    obtain ⟨A3, c3, rfl⟩ := HO.out.form
    by_cases hqm : q < m
    · have q2 : (q : Int) < (m : Int) := by omega
      obtain ⟨j, hj⟩ : ∃ j, xs[q]? = some j := ⟨xs[q]'(by rw [HM.out]; exact hqm), List.getElem?_eq_getElem _⟩
      obtain ⟨bj, oj, rfl, hbj, a0⟩ := (J.out.below HB.out).at_ q j hj
      have hw1 : w.heap.size ≤ wr.heap.size := HB.out.size

      obtain ⟨b, hPb⟩ : ∃ b, P q = b := ⟨_, rfl⟩
      have HPB := Lib.hid hPb
      have hc := HFN.out wr q _ hj HB.out
      rw [hPb] at hc
      have HC := Lib.hid hc
      clear hj hPb hc
      go_wp2_with fail
      go_at_fn k
      refine HC.out.mono ?_
      rintro e w5 ⟨rfl, hb⟩
      have HB5 := Lib.hid (show Below w.heap.size w w5 from bl_trans HB.out hb)
      have HO5 := Lib.hid (show OwnZ w5 w.heap.size (.slice A3 zs.length c3) zs from HO.out.below hb)
      have hs5 : w.heap.size ≤ w5.heap.size := HB5.out.size
      clear hb HC
      cases b
      · have HN := Lib.hid (places_no HPB.out)
        go_wp2
        go_roundw
        case rel => exact ⟨q + 1, zs, by omega, by go_num, by omega, Lib.hid (by rw [HN.out, HZ.out]), HO5, HB5⟩
        case measure => simp [intOf]; omega
      · have HN := Lib.hid (places_yes HPB.out)
        go_wp2_with (at_builtin; refine wpList_append_own _ rfl (.tmp 19) (.tmp 21) 43 rfl w.heap.size 3 i0 _ 1 8 Tryd.underlying43 hi hz0 hz1 hz2 rfl (by decide) _ zs.length (zs.map (Value.int .i64)) rfl (HO5.out.alloc _) ⟨w5.heap.size, 0, none⟩ 1 1 [Value.int .i64 (q : Int)] rfl rfl (cell_new1_at _ _ _ _ rfl) (by intro u hu; rw [List.mem_singleton.1 hu]; rfl) (by unfold maxLen; omega) (by omega) (by simp; omega) ?_; intro v2 w9 hown2 hgrow2 _; have HO2 := Lib.hid (show OwnZ w9 w.heap.size v2 (zs ++ [(q : Int)]) from OwnZ.snoc hown2); have HB9 := Lib.hid ((bl_alloc HB5.out _).grown hgrow2 (by simp; omega) (fun k e => (World.ownsRow.lt HO5.out k e).1)); clear hown2 hgrow2)
        go_wp2
        go_roundw
        case rel => exact ⟨q + 1, zs ++ [(q : Int)], by omega, by go_num, by simp; omega, Lib.hid (by rw [HN.out, HZ.out]), HO2, HB9⟩
        case measure => simp [intOf]; omega
    · obtain rfl : q = m := by omega
      go_wp2
      go_ret
      rw [← HZ.out]
      exact ⟨A3, c3, rfl, HO.out, HB.out⟩

end Go.Proofs.YtfjbkblodgdcnaaDoor
