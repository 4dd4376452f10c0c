/- The walk of the law FnHoldsBy. -/
import Derived.Test.YtfjbkblodgdcnaaGreatDoorD8e
import Derived.Test.YtfjbkblodgdcnaaGreatDoorHb
import Derived.Test.YtfjbkblodgdcnaaGreatDoorNB
import Derived.Test.YtfjbkblodgdcnaaGreatDoorPOrd
import Derived.Test.YtfjbkblodgdcnaaGreatDoorNA
namespace Go.Proofs.YtfjbkblodgdcnaaGreatDoor
open Go.RowKit
set_option linter.unusedVariables false

theorem ord_permB {n : Nat} {o : List Nat} (h : o.Perm (List.range n)) : ordB (toZ o) n = true := by
  rw [ordB_iff]
  refine ⟨by rw [toZ_len, h.length_eq, List.length_range], fun z hz => ?_, ?_⟩
  · obtain ⟨i, hi, rfl⟩ := List.mem_map.1 hz
    have := List.mem_range.1 (h.mem_iff.1 hi)
    exact ⟨Int.natCast_nonneg i, by show (i : Int) < _; omega⟩
  · exact List.pairwise_map.2 ((h.nodup_iff.2 (nodup_range _)).imp fun hab e => hab (by injection e))
theorem toZ_natB (o : List Nat) : (toZ o).map Int.toNat = o := by
  unfold toZ
  rw [List.map_map]
  conv => rhs; rw [← List.map_id o]
  exact List.map_congr_left fun x _ => rfl
theorem iAssign_o (w : World) (A : Option Addr) (n c : Nat) (ts : List Tk) (o : List Nat) (h : Tks w w.heap.size A n ts) (hn : n ≤ 1048576) (hr : assignOf ts = some o) :
    Calls Tryz.prog 17 #[.slice A n c] w (ZsRes2 (toZ o) true w) := iAssign_is w A n c ts h hn (some o) hr
theorem iPut_o (w : World) (A : Option Addr) (n c : Nat) (ts : List Tk) (A2 : Option Addr) (n2 c2 : Nat) (o : List Nat) (h : Tks w w.heap.size A n ts) (hn : n ≤ 1048576) (h2 : Zs w w.heap.size A2 n2 (toZ o)) (hs : setB ts = true) (ho : o.Perm (List.range ts.length)) :
    Calls Tryz.prog 18 #[.slice A n c, .slice A2 n2 c2] w (LsRes2 (putN ts o) true w) :=
  iPutOrder_is w A n c ts A2 n2 c2 (toZ o) h hn h2 (putN ts o) true (by rw [hs, ord_permB ho]; rfl) (by rw [toZ_natB]; rfl)

set_option maxRecDepth 100000 in
set_option maxHeartbeats 4000000 in
theorem fnHoldsBy_walk (w : World) (A : Option Addr) (n c : Nat) (f : Nat → Int) (h : Code w w.heap.size A n c f) (e0 : Addr) (he : EG w e0) :
    Calls Tryz.prog 4 #[.slice A n c] w fun e w' => e = .returned (.bool true) ∧ Below w.heap.size w w' := by
  have H := Lib.hid h
  have HE := Lib.hid he
  have hle := h.le
  have hmax := h.max
  unfold maxLen at hmax
  clear h he
  by_cases hn : 1048576 < n
  · go_enter Tryz.func4, Tryz.ntmps4
    go_wp2
    go_ret
    exact ⟨rfl, Below.refl _ _⟩
  go_enter Tryz.func4, Tryz.ntmps4
  go_wp2_with fail
  refine (dDrawHoldsBy_any _ A n c f H.out).mono ?_
  rintro e w1 ⟨At, ct, ts, z, rfl, hl, hzz, ho, hb⟩
  have HB1 := Lib.hid hb
  have HO := Lib.hid ho
  have HT := Lib.hid ho.reads.2
  have hct := own_le ho
  clear hb ho H
  have HD1 := Lib.hid (Below.refl w1.heap.size w1)
  have hs1 := HB1.out.size
  obtain ⟨r, hr⟩ : ∃ r, hBy ts z = r := ⟨_, rfl⟩
  have HR := Lib.hid hr
  clear hr
  go_wp2_with fail
  refine (iHoldsBy_is w1 At _ ct ts z (tks_to HT.out HD1.out) (by omega) hct e0 (HE.out.below HB1.out) r HR.out).mono ?_
  rintro e w2 ⟨rfl, hb⟩
  have hs2 := hb.size
  have HB2 := Lib.hid (show Below w.heap.size w w2 from bl_trans HB1.out hb)
  have HD2 := Lib.hid (show Below w1.heap.size w1 w2 from bl_trans HD1.out hb)
  clear hb
  go_wp2_with fail
  refine (sHoldsBy_is w2 At _ ct ts z (tks_to HT.out HD2.out) (by omega) r HR.out).mono ?_
  rintro e w3 ⟨rfl, hb⟩
  have hs3 := hb.size
  have HB3 := Lib.hid (show Below w.heap.size w w3 from bl_trans HB2.out hb)
  have HD3 := Lib.hid (show Below w1.heap.size w1 w3 from bl_trans HD2.out hb)
  clear hb
  by_cases hz0 : z = 0
  · subst hz0
    cases r
    · go_wp2_with fail
      refine (sHoldsBy_is w3 At _ ct ts 0 (tks_to HT.out HD3.out) (by omega) false HR.out).mono ?_
      rintro e w4 ⟨rfl, hb⟩
      have hs4 := hb.size
      have HB4 := Lib.hid (show Below w.heap.size w w4 from bl_trans HB3.out hb)
      have HD4 := Lib.hid (show Below w1.heap.size w1 w4 from bl_trans HD3.out hb)
      clear hb
      go_wp2
      go_ret
      exact ⟨rfl, HB4.out⟩
    · obtain ⟨o, ho, hop, hoh⟩ := holds_assign (ts := ts) HR.out
      have HO := Lib.hid ho
      have HOP := Lib.hid hop
      have HOH := Lib.hid hoh
      have HSS := Lib.hid (hBy_set HR.out)
      have hpl : (putN ts o).length = ts.length := (put_all hop).length_eq
      have HPL := Lib.hid hpl
      clear ho hop hoh hpl
      go_wp2_with fail
      refine (iAssign_o w3 At _ ct ts o (tks_to HT.out HD3.out) (by omega) HO.out).mono ?_
      rintro e w4 ⟨A8, c8, rfl, ho, hb⟩
      have hs4 := hb.size
      have HB4 := Lib.hid (show Below w.heap.size w w4 from bl_trans HB3.out hb)
      have HD4 := Lib.hid (show Below w1.heap.size w1 w4 from bl_trans HD3.out hb)
      have HZ4 := Lib.hid (ho.reads)
      clear hb ho
      go_wp2_with fail
      refine (iPut_o w4 At _ ct ts A8 _ c8 o (tks_to HT.out HD4.out) (by omega) HZ4.out HSS.out HOP.out).mono ?_
      rintro e w5 ⟨A9, c9, rfl, ho, hb⟩
      have hs5 := hb.size
      have HB5 := Lib.hid (show Below w.heap.size w w5 from bl_trans HB4.out hb)
      have HD5 := Lib.hid (show Below w1.heap.size w1 w5 from bl_trans HD4.out hb)
      have HZ5 := Lib.hid ((HZ4.out.below hb).more hb.size)
      have HX5 := Lib.hid (ho)
      clear hb ho
      go_wp2_with fail
      refine (iHoldsBy_is w5 A9 _ c9 (putN ts o) 0 HX5.out.reads.2 (by have := HPL.out; omega) (own_le HX5.out) e0 (HE.out.below HB5.out) true HOH.out).mono ?_
      rintro e w6 ⟨rfl, hb⟩
      have hs6 := hb.size
      have HB6 := Lib.hid (show Below w.heap.size w w6 from bl_trans HB5.out hb)
      have HD6 := Lib.hid (show Below w1.heap.size w1 w6 from bl_trans HD5.out hb)
      have HZ6 := Lib.hid ((HZ5.out.below hb).more hb.size)
      have HX6 := Lib.hid (HX5.out.below hb)
      clear hb
      go_wp2
      go_ret
      exact ⟨rfl, HB6.out⟩
  · have p0 : (z == 0) = false := by simpa using hz0
    cases r
    · go_wp2_with fail
      refine (sHoldsBy_is w3 At _ ct ts z (tks_to HT.out HD3.out) (by omega) false HR.out).mono ?_
      rintro e w4 ⟨rfl, hb⟩
      have hs4 := hb.size
      have HB4 := Lib.hid (show Below w.heap.size w w4 from bl_trans HB3.out hb)
      have HD4 := Lib.hid (show Below w1.heap.size w1 w4 from bl_trans HD3.out hb)
      clear hb
      go_wp2
      go_ret
      exact ⟨rfl, HB4.out⟩
    · go_wp2_with fail
      refine (sHoldsBy_is w3 At _ ct ts z (tks_to HT.out HD3.out) (by omega) true HR.out).mono ?_
      rintro e w4 ⟨rfl, hb⟩
      have hs4 := hb.size
      have HB4 := Lib.hid (show Below w.heap.size w w4 from bl_trans HB3.out hb)
      have HD4 := Lib.hid (show Below w1.heap.size w1 w4 from bl_trans HD3.out hb)
      clear hb
      go_wp2
      go_ret
      exact ⟨rfl, HB4.out⟩

end Go.Proofs.YtfjbkblodgdcnaaGreatDoor
