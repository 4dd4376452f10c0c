/- Contract of the reference's RaiseAll. Nothing that was there is written. -/
import Derived.Test.YtfjbkblodgdcnaaDoorRs
namespace Go.Proofs.YtfjbkblodgdcnaaDoor
open Go.RowKit
set_option linter.unusedVariables false

theorem ticks_iff {d : Int} : ticksB d = true ↔ -20 ≤ d ∧ d ≤ 20 := by unfold ticksB; rw [Bool.and_eq_true, decide_eq_true_iff, decide_eq_true_iff]
theorem Own.setOff {w : World} {B M : Nat} {v : Value} {ts : List Tk} (h : Own w B v ts) (hv : ∀ k, v.ownBlock = some k → k < M) {a : Addr} (ha : M ≤ a.block) (u : Value) : Own (w.setCell a u) B v ts := by
  refine ⟨h.1, ?_⟩
  rcases h.2 with hn | ⟨g, cap, cur, e, hb, hg, rest⟩
  · exact .inl hn
  · refine .inr ⟨g, cap, cur, e, hb, (Below.heap_setCell w a u g (fun e2 => ?_)).trans hg, rest⟩
    have := hv g (by rw [e]; rfl)
    omega

set_option maxRecDepth 100000 in
set_option maxHeartbeats 2000000 in
theorem sRaise_is (w : World) (A : Option Addr) (n c : Nat) (ts : List Tk) (d : Int) (us : List Tk) (b : Bool) (h : Tks w w.heap.size A n ts) (hn : n ≤ 1048576) (hd : raiseB ts d = b) (hu : us = if b then raiseL ts d else []) :
    Calls Tryd.prog 27 #[.slice A n c, .int .i64 d] w (LsRes2 us b w) := by
  obtain ⟨i0, hi, hz0, hz1, hz2⟩ := info_parts info_task
  have H := Lib.hid h
  have HL := Lib.hid h.len
  clear h
  cases hs : setB ts
  · obtain rfl : b = false := by rw [← hd]; unfold raiseB; rw [hs]; rfl
    obtain rfl : us = [] := by rw [hu]; rfl
    have HS := Lib.hid hs
    clear hd hu hs
    go_enter Tryd.func27, Tryd.ntmps27
    go_wp2_with fail
    refine (sSetValid_any _ A n c ts H.out hn).mono ?_
    rintro e w1 ⟨rfl, hb1⟩
    rw [HS.out]
    have HB1 := Lib.hid hb1
    clear hb1
    go_wp2
    go_ret2
    exact ⟨_, _, rfl, own_more (Own.empty _) HB1.out.size, bl_alloc HB1.out _⟩
  have h5 : n ≤ 5 := by have := setB_len hs; rw [HL.out] at this; exact this
  have HS := Lib.hid hs
  by_cases h1 : d < -20
  · obtain rfl : b = false := by rw [← hd]; unfold raiseB ticksB; rw [decide_eq_false (show ¬ -20 ≤ d by omega)]; simp
    obtain rfl : us = [] := by rw [hu]; rfl
    have k1 : decide (d < -20) = true := decide_eq_true h1
    clear hd hu hs
    go_enter Tryd.func27, Tryd.ntmps27
    go_wp2_with fail
    refine (sSetValid_any _ A n c ts H.out hn).mono ?_
    rintro e w1 ⟨rfl, hb1⟩
    rw [HS.out]
    have HB1 := Lib.hid hb1
    clear hb1
    go_wp2
    go_ret2
    exact ⟨_, _, rfl, own_more (Own.empty _) HB1.out.size, bl_alloc HB1.out _⟩
  by_cases h2 : 20 < d
  · obtain rfl : b = false := by rw [← hd]; unfold raiseB ticksB; rw [decide_eq_false (show ¬ d ≤ 20 by omega)]; simp
    obtain rfl : us = [] := by rw [hu]; rfl
    have k1 : decide (d < -20) = false := decide_eq_false h1
    have k2 : decide (d > 20) = true := decide_eq_true h2
    clear hd hu hs
    go_enter Tryd.func27, Tryd.ntmps27
    go_wp2_with fail
    refine (sSetValid_any _ A n c ts H.out hn).mono ?_
    rintro e w1 ⟨rfl, hb1⟩
    rw [HS.out]
    have HB1 := Lib.hid hb1
    clear hb1
    go_wp2
    go_ret2
    exact ⟨_, _, rfl, own_more (Own.empty _) HB1.out.size, bl_alloc HB1.out _⟩
  have k1 : decide (d < -20) = false := decide_eq_false h1
  have k2 : decide (d > 20) = false := decide_eq_false h2
  have HD : Hid (setB (raiseL ts d) = b) := by
    show _ = _
    rw [← hd]; unfold raiseB; rw [hs, ticks_iff.2 ⟨by omega, by omega⟩]; rfl
  have HU := Lib.hid hu
  clear hd hu hs
  go_enter Tryd.func27, Tryd.ntmps27
  go_wp2_with fail
  refine (sSetValid_any _ A n c ts H.out hn).mono ?_
  rintro e w1 ⟨rfl, hb1⟩
  rw [HS.out]
  have HB1 := Lib.hid hb1
  clear hb1
  go_wp2
  go_loopw [6, 7] (fun v i wr => ∃ k : Nat, k ≤ n ∧ i = .int .i64 k ∧ Hid (Own wr w.heap.size v (raiseL (ts.take k) d)) ∧ Hid (Below w.heap.size w wr)) (fun _ i _ => n - (intOf i).toNat)
  case atStart => exact ⟨0, Nat.zero_le _, rfl, Lib.hid (own_more (Own.empty _) HB1.out.size), Lib.hid (bl_alloc HB1.out _)⟩
  case round =>
    obtain ⟨k, hk, rfl, HO, HB⟩ := hrel
    have hlen : (raiseL (ts.take k) d).length = k := by rw [raiseL_len, List.length_take, HL.out]; omega
    obtain ⟨xs, hxs⟩ : ∃ xs, raiseL (ts.take k) d = xs := ⟨_, rfl⟩
    rw [hxs] at HO hlen
    obtain ⟨Ao, co, rfl⟩ := HO.out.form
    have HLN := Lib.hid hlen
    have HXS := Lib.hid hxs
    clear hlen hxs
    by_cases hlt : k < n
    · obtain ⟨t, ht⟩ : ∃ t, ts[k]? = some t := ⟨ts[k]'(by rw [HL.out]; exact hlt), List.getElem?_eq_getElem _⟩
      obtain ⟨bb, o, rfl, hbl, c0, c1, c2, c3, c4⟩ := (H.out.below HB.out).at_ k t ht
      obtain ⟨⟨a1, a2⟩, a3, a4⟩ := set_small HS.out ht
      have HST := Lib.hid (raiseL_step (d := d) ht)
      have HOL := Lib.hid (World.ownsRow.lt HO.out)
      have hsz : w.heap.size ≤ wr.heap.size := HB.out.size
      clear ht
      obtain ⟨lo, hi', du, ev, cr⟩ := t
      dsimp only at c0 c1 c2 c3 c4 a1 a2 a3 a4
      have w1' : IntKind.i64.wrap (lo + d) = lo + d := IntWalk.i64_in _ (by omega)
      have w2' : IntKind.i64.wrap (hi' + d) = hi' + d := IntWalk.i64_in _ (by omega)
      have q1 : (0 : Int) ≤ (k : Int) := by omega
      have q2 : (k : Int) < (n : Int) := by omega
      have b1 : xs.length + 1 ≤ maxLen := by have := HLN.out; unfold maxLen; omega
      have b2 : (xs.length + 1) * 40 ≤ 140737488355328 := by have := HLN.out; omega
      go_wp2_with (at_builtin; refine wpList_append_own _ rfl (.tmp 42) (.tmp 44) 23 rfl w.heap.size 37 i0 _ 5 40 Tryd.underlying23 hi hz0 hz1 hz2 rfl (by decide) _ xs.length (xs.flatMap Tk.cells) rfl ((HO.out.alloc _).alloc _) ⟨wr.heap.size + 1, 0, none⟩ 1 1 (Tk.cells (raiseT d ⟨lo, hi', du, ev, cr⟩)) rfl rfl (cell_new5_at _ (raiseT d ⟨lo, hi', du, ev, cr⟩) _ _ (by simp)) (by intro u hu; exact cells_one [raiseT d ⟨lo, hi', du, ev, cr⟩] u (by simpa using hu)) b1 b2 (by simp; omega) ?_; intro v' w7 hown' hgrow _)
      have HO7 := Lib.hid (Own.snoc hown')
      have HB7 : Hid (Below w.heap.size w w7) := Lib.hid ((bl_alloc (bl_alloc HB.out _) _).grown hgrow (by simp; omega) (fun x e => (HOL.out x e).1))
      clear hown' hgrow b1 b2
      go_wp2
      go_roundw
      case rel => exact ⟨k + 1, by omega, by go_num, Lib.hid (by have := HO7.out; rw [HST.out, HXS.out]; exact this), HB7⟩
      case measure => simp [intOf]; omega
    · obtain rfl : k = n := by omega
      have hfull : raiseL ts d = xs := by rw [← HXS.out, List.take_of_length_le (by rw [HL.out]; omega)]
      obtain ⟨hr, hrd⟩ : ∃ hr, setB xs = hr := ⟨_, rfl⟩
      have hbr : hr = b := by rw [← hrd, ← hfull]; exact HD.out
      have HT7 : Hid (Tks wr wr.heap.size Ao xs.length xs) := HO.out.reads.2
      go_wp2_with fail
      refine (sSetValid_any _ Ao xs.length co xs HT7.out (by have := HLN.out; omega)).mono ?_
      rintro e w8 ⟨rfl, hb8⟩
      have HB8 := Lib.hid (bl_trans HB.out hb8)
      have HO8 := Lib.hid (HO.out.below hb8)
      rw [hrd]
      clear hb8
      cases hr
      · obtain rfl : us = [] := by rw [HU.out, ← hbr]; rfl
        subst hbr
        clear HU HD
        go_wp2
        go_ret2
        exact ⟨_, _, rfl, own_more (Own.empty _) HB8.out.size, bl_alloc HB8.out _⟩
      · obtain rfl : us = xs := by rw [HU.out, ← hbr]; exact hfull
        subst hbr
        clear HU HD
        go_wp2
        go_ret2
        exact ⟨Ao, co, rfl, HO8.out, HB8.out⟩

end Go.Proofs.YtfjbkblodgdcnaaDoor
