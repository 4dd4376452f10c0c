/- The walk of the law that sets are read back: FnSetText returns true, and writes nothing that was there. -/
import Derived.Test.YtnhffadebjibnabDoorDrawSet
import Derived.Test.YtnhffadebjibnabDoorLawExSet
import Derived.Test.YtnhffadebjibnabDoorLawText
import Derived.Test.YtnhffadebjibnabDoorSame
namespace Go.Proofs.YtnhffadebjibnabDoor
open Go.RowKit

theorem setText_tsS {l : List UInt8} (h : okS l = true) : setText (tsS l) = l := by
  by_cases hl : l = []
  · subst hl
    rw [okS_nil.2, setText]
    simp [joinT, join_nil]
  · obtain ⟨h1, _, h3, _⟩ := okS_spec h hl
    rw [setText, h1, if_pos rfl, h3]
theorem back_set {ts : List Tk} (h : setB ts = true) : okS (setText ts) = true ∧ tsS (setText ts) = ts := by
  rw [setText, h, if_pos rfl]
  by_cases h0 : ts = []
  · subst h0
    have : joinT [] = [] := by simp [joinT, join_nil]
    rw [this]
    exact okS_nil
  · obtain ⟨a, b, _⟩ := okS_of h h0 rfl
    exact ⟨a, b⟩

set_option maxRecDepth 100000 in
set_option maxHeartbeats 4000000 in
theorem fnSetText_walk (w : World) (A : Option Addr) (n c : Nat) (f : Nat → Int) (h : Code w w.heap.size A n c f) (A2 : Option Addr) (n2 c2 : Nat) (f2 : Nat → Int) (h2 : Code w w.heap.size A2 n2 c2 f2) (hv : Vars w) :
    Calls Tryd.prog 4 #[.slice A n c, .slice A2 n2 c2] w (TrueP w) := by
  have H := Lib.hid h
  have H2 := Lib.hid h2
  have HV := Lib.hid hv
  have hle := h.le
  have hmax := h.max
  have hle2 := h2.le
  have hmax2 := h2.max
  unfold maxLen at hmax hmax2
  clear h hv h2
  by_cases hn : 1048576 < n
  · have hni : (1048576 : Int) < (n : Int) := by omega
    go_enter Tryd.func4, Tryd.ntmps4
    go_wp2
    go_ret
    exact ⟨rfl, Below.refl _ _⟩
  have hni : ¬ (1048576 : Int) < (n : Int) := by omega
  by_cases hn2 : 1048576 < n2
  · have hni2 : (1048576 : Int) < (n2 : Int) := by omega
    go_enter Tryd.func4, Tryd.ntmps4
    go_wp2
    go_ret
    exact ⟨rfl, Below.refl _ _⟩
  have hni2 : ¬ (1048576 : Int) < (n2 : Int) := by omega
  go_enter Tryd.func4, Tryd.ntmps4
  go_wp2_with fail
  refine (dDrawFormatSet_any _ A n c f H.out).mono ?_
  rintro e w1 ⟨Ats, cts, ts, rfl, hlts, _, ho, hb⟩
  have HO1 := Lib.hid ho
  have HB1 := Lib.hid hb
  clear ho hb H
  go_wp2_with fail
  refine (iFormatSet_any w1 Ats _ cts ts HO1.out.reads.2 (by omega)).mono ?_
  rintro e w2 ⟨rfl, hb⟩
  have HO2 := Lib.hid (HO1.out.below hb)
  have HB2 := Lib.hid (bl_trans HB1.out hb)
  clear hb HO1 HB1
  go_wp2_with fail
  refine (sFormatSet_any w2 Ats _ cts ts HO2.out.reads.2 (by omega)).mono ?_
  rintro e w3 ⟨rfl, hb⟩
  have HO3 := Lib.hid (HO2.out.below hb)
  have HB3 := Lib.hid (bl_trans HB2.out hb)
  clear hb HO2 HB2
  have hsl := setText_len ts
  have HBK := Lib.hid (show setB ts = true → okS (setText ts) = true ∧ tsS (setText ts) = ts from back_set)
  obtain ⟨vs, bs, hu1, hb1, _, hi_, _⟩ := setParsers (setText ts) (by omega)
  have HBI := Lib.hid (show setB ts = true → vs = ts ∧ bs = true from fun h => by rw [hu1, hb1]; exact ⟨(HBK.out h).2, (HBK.out h).1⟩)
  have HI0 := Lib.hid hi_
  clear hi_ hu1 hb1 HBK
  generalize setText ts = s at HI0 hsl ⊢
  go_wp2_with fail
  refine (iSetValid_any w3 Ats _ cts ts HO3.out.reads.2 (by omega)).mono ?_
  rintro e w4 ⟨rfl, hb⟩
  have HO4 := Lib.hid (HO3.out.below hb)
  have HB4 := Lib.hid (bl_trans HB3.out hb)
  clear hb HO3 HB3
  go_wp2_with fail
  refine (sSetValid_any w4 Ats _ cts ts HO4.out.reads.2 (by omega)).mono ?_
  rintro e w5 ⟨rfl, hb⟩
  have HO5 := Lib.hid (HO4.out.below hb)
  have HB5 := Lib.hid (bl_trans HB4.out hb)
  clear hb HO4 HB4
  go_wp2_with fail
  refine (iSetValid_any w5 Ats _ cts ts HO5.out.reads.2 (by omega)).mono ?_
  rintro e w6 ⟨rfl, hb⟩
  have HO6 := Lib.hid (HO5.out.below hb)
  have HB6 := Lib.hid (bl_trans HB5.out hb)
  clear hb HO5 HB5
  cases hsb : setB ts
  · have HBX := HB6
    go_wp2_with fail
    refine (drawParseSet_any _ A2 n2 c2 f2 ?_).mono ?_
    · exact H2.out.belowAll HBX.out
    rintro e w8 ⟨l, rfl, hl, hb⟩
    have HB8 := Lib.hid (bl_trans HBX.out hb)
    clear hb HBX
    obtain ⟨us, b, hu1, hb1, hus, hi_, hs_⟩ := setParsers l (by omega)
    have HHf := Lib.hid (show b = true → setText us = l from fun hb => by rw [hu1]; rw [hb1] at hb; exact setText_tsS hb)
    have HI := Lib.hid hi_
    have HS := Lib.hid hs_
    clear hi_ hs_ hu1 hb1
    go_wp2_with fail
    refine (HI.out _ (HV.out.below HB8.out)).mono ?_
    rintro e w9 ⟨Ag, cg, rfl, ho, hb⟩
    have HB9 := Lib.hid (bl_trans HB8.out hb)
    have HOg9 := Lib.hid ho
    clear hb ho HI HB8
    go_wp2_with fail
    refine (HS.out _).mono ?_
    rintro e w10 ⟨Aw, cw, rfl, ho, hb⟩
    have HB10 := Lib.hid (bl_trans HB9.out hb)
    have HOg10 := Lib.hid (HOg9.out.below hb)
    have HOw10 := Lib.hid ho
    clear hb ho HS HB9 HOg9
    go_wp2_with fail
    refine (dmTasks_any w10 _ _ _ _ _ us HOg10.out.reads.2 HOw10.out.reads.2 (by omega)).mono ?_
    rintro e w11 ⟨rfl, hb⟩
    have HB11 := Lib.hid (bl_trans HB10.out hb)
    have HOg11 := Lib.hid (HOg10.out.below hb)
    clear hb HB10 HOg10 HOw10
    cases b
    · go_wp2
      go_ret
      exact ⟨rfl, HB11.out⟩
    · have HH := Lib.hid (HHf.out rfl)
      go_wp2_with fail
      refine (iFormatSet_any w11 Ag _ cg us HOg11.out.reads.2 (by omega)).mono ?_
      rintro e w12 ⟨rfl, hb⟩
      have HB12 := Lib.hid (bl_trans HB11.out hb)
      clear hb
      rw [HH.out]
      go_wp2
      go_ret
      exact ⟨by simp, HB12.out⟩
  · obtain ⟨rfl, rfl⟩ := HBI.out hsb
    clear HBI
    go_wp2_with fail
    refine (HI0.out _ (HV.out.below HB6.out)).mono ?_
    rintro e w7 ⟨Ab, cb, rfl, ho, hb⟩
    have HO7 := Lib.hid (HO6.out.below hb)
    have HOb7 := Lib.hid ho
    have HB7 := Lib.hid (bl_trans HB6.out hb)
    clear hb ho HI0 HO6 HB6
    go_wp2_with fail
    refine (dmTasks_any w7 _ _ _ _ _ vs HOb7.out.reads.2 HO7.out.reads.2 (by omega)).mono ?_
    rintro e w7' ⟨rfl, hb⟩
    have HBX := Lib.hid (bl_trans HB7.out hb)
    clear hb HB7 HO7 HOb7
    go_wp2_with fail
    refine (drawParseSet_any _ A2 n2 c2 f2 ?_).mono ?_
    · exact H2.out.belowAll HBX.out
    rintro e w8 ⟨l, rfl, hl, hb⟩
    have HB8 := Lib.hid (bl_trans HBX.out hb)
    clear hb HBX
    obtain ⟨us, b, hu1, hb1, hus, hi_, hs_⟩ := setParsers l (by omega)
    have HHf := Lib.hid (show b = true → setText us = l from fun hb => by rw [hu1]; rw [hb1] at hb; exact setText_tsS hb)
    have HI := Lib.hid hi_
    have HS := Lib.hid hs_
    clear hi_ hs_ hu1 hb1
    go_wp2_with fail
    refine (HI.out _ (HV.out.below HB8.out)).mono ?_
    rintro e w9 ⟨Ag, cg, rfl, ho, hb⟩
    have HB9 := Lib.hid (bl_trans HB8.out hb)
    have HOg9 := Lib.hid ho
    clear hb ho HI HB8
    go_wp2_with fail
    refine (HS.out _).mono ?_
    rintro e w10 ⟨Aw, cw, rfl, ho, hb⟩
    have HB10 := Lib.hid (bl_trans HB9.out hb)
    have HOg10 := Lib.hid (HOg9.out.below hb)
    have HOw10 := Lib.hid ho
    clear hb ho HS HB9 HOg9
    go_wp2_with fail
    refine (dmTasks_any w10 _ _ _ _ _ us HOg10.out.reads.2 HOw10.out.reads.2 (by omega)).mono ?_
    rintro e w11 ⟨rfl, hb⟩
    have HB11 := Lib.hid (bl_trans HB10.out hb)
    have HOg11 := Lib.hid (HOg10.out.below hb)
    clear hb HB10 HOg10 HOw10
    cases b
    · go_wp2
      go_ret
      exact ⟨rfl, HB11.out⟩
    · have HH := Lib.hid (HHf.out rfl)
      go_wp2_with fail
      refine (iFormatSet_any w11 Ag _ cg us HOg11.out.reads.2 (by omega)).mono ?_
      rintro e w12 ⟨rfl, hb⟩
      have HB12 := Lib.hid (bl_trans HB11.out hb)
      clear hb
      rw [HH.out]
      go_wp2
      go_ret
      exact ⟨by simp, HB12.out⟩

end Go.Proofs.YtnhffadebjibnabDoor
