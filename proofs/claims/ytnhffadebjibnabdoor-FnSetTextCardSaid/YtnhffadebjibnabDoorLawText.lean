/- The walk of the law that formatting and parsing a task are inverse: FnTaskText returns true, and writes nothing that was there. -/
import Derived.Test.YtnhffadebjibnabDoorDrawStr
import Derived.Test.YtnhffadebjibnabDoorLawParse
import Derived.Test.YtnhffadebjibnabDoorLawFmt
namespace Go.Proofs.YtnhffadebjibnabDoor
open Go.RowKit

theorem Code.belowAll {w w' : World} {A : Option Addr} {n c : Nat} {f : Nat → Int} (h : Code w w.heap.size A n c f) (hb : Below w.heap.size w w') : Code w' w'.heap.size A n c f :=
  ⟨h.le, h.max, fun i hi => by
    obtain ⟨b, o, e, hlt, hc⟩ := h.at_ i hi
    exact ⟨b, o, e, Nat.lt_of_lt_of_le hlt hb.size, (hb.cell (p := ⟨b, o + i, none⟩) hlt).trans hc⟩, h.byte⟩

theorem okR_nil : okR [] = false := by
  cases h : okR []
  · rfl
  · obtain ⟨lo, hi, du, ev, cr, hv, hl, _⟩ := okR_spec h
    exact absurd hl.symm (textL_ne hv)

/-- The second half of the law: a drawn text. -/
def Half (l : List UInt8) (lo hi du ev : Int) (cr b : Bool) : Prop := b = true → textL lo hi du ev cr = l
theorem half_of {l : List UInt8} {lo hi du ev : Int} {cr b : Bool} (hp : parsedT l = ⟨lo, hi, du, ev, cr⟩) (ho : okR l = b) : Half l lo hi du ev cr b := fun hb => by
  subst hb
  obtain ⟨lo0, hi0, du0, ev0, cr0, hv, hll, hpp⟩ := okR_spec ho
  have := hp.symm.trans hpp
  injection this with e1 e2 e3 e4 e5
  subst e1 e2 e3 e4 e5
  exact hll.symm

set_option maxRecDepth 100000 in
set_option maxHeartbeats 4000000 in
theorem fnTaskText_walk (w : World) (A : Option Addr) (n c : Nat) (f : Nat → Int) (h : Code w w.heap.size A n c f) (A2 : Option Addr) (n2 c2 : Nat) (f2 : Nat → Int) (h2 : Code w w.heap.size A2 n2 c2 f2) (hv : Vars w) :
    Calls Tryd.prog 3 #[.slice A n c, .slice A2 n2 c2] w (TrueP w) := by
  have H := Lib.hid h
  have H2 := Lib.hid h2
  have HV := Lib.hid hv
  have hle := h.le
  have hmax := h.max
  have hle2 := h2.le
  have hmax2 := h2.max
  unfold maxLen at hmax hmax2
  clear h hv h2
  by_cases hn : 1048576 < n
  · have hni : (1048576 : Int) < (n : Int) := by omega
    go_enter Tryd.func3, Tryd.ntmps3
    go_wp2
    go_ret
    exact ⟨rfl, Below.refl _ _⟩
  have hni : ¬ (1048576 : Int) < (n : Int) := by omega
  by_cases hn2 : 1048576 < n2
  · have hni2 : (1048576 : Int) < (n2 : Int) := by omega
    go_enter Tryd.func3, Tryd.ntmps3
    go_wp2
    go_ret
    exact ⟨rfl, Below.refl _ _⟩
  have hni2 : ¬ (1048576 : Int) < (n2 : Int) := by omega
  go_enter Tryd.func3, Tryd.ntmps3
  go_wp2_with fail
  refine (drawFormat_any _ A n c f H.out).mono ?_
  rintro e w1 ⟨lo, hi, du, ev, cr, rfl, _, hb⟩
  have HB1 := Lib.hid hb
  clear hb H
  go_wp2_with fail
  refine (iFormatTask_any _ _ _ _ _ _).mono ?_
  rintro e w2 ⟨rfl, hb⟩
  have HB2 := Lib.hid (bl_trans (bl_alloc HB1.out _) hb)
  have s2 : w1.heap.size < w2.heap.size := by have := hb.size; simp at this; omega
  obtain ⟨b0, b1, b2, b3, b4⟩ := t5_kept w1.heap.size lo hi du ev cr hb (by simp) (by simp [T5, go_sem])
  clear hb HB1
  have htl := textL_len lo hi du ev cr
  obtain ⟨lo', hi', du', ev', cr', b, hp, ho, hi_, _⟩ := parsers (textL lo hi du ev cr) (by omega)
  have HI := Lib.hid hi_
  have HR : Hid (b = validB lo hi du ev cr ∧ (b = true → lo' = lo ∧ hi' = hi ∧ du' = du ∧ ev' = ev ∧ cr' = cr)) := by
    cases hv : validB lo hi du ev cr
    · rw [textL_nil hv, okR_nil] at ho
      exact ⟨ho.symm, fun e => by rw [← ho] at e; cases e⟩
    · obtain ⟨k1, k2⟩ := okR_text hv
      rw [k1] at ho
      rw [k2] at hp
      injection hp with e1 e2 e3 e4 e5
      exact ⟨ho.symm, fun _ => ⟨e1.symm, e2.symm, e3.symm, e4.symm, e5.symm⟩⟩
  clear hi_ hp ho
  go_wp2_with fail
  refine (HI.out _ (HV.out.below HB2.out)).mono ?_
  rintro e w3 ⟨rfl, hb⟩
  have HB3 := Lib.hid (bl_trans HB2.out hb)
  have s3 : w1.heap.size < w3.heap.size := Nat.lt_of_lt_of_le s2 hb.size
  obtain ⟨c0, c1, c2', c3, c4⟩ := t5_kept w1.heap.size lo hi du ev cr hb (by omega) ⟨b0, b1, b2, b3, b4⟩
  clear hb b0 b1 b2 b3 b4 HI HB2
  cases hvv : validB lo hi du ev cr
  · obtain rfl : b = false := by rw [HR.out.1, hvv]
    clear HR htl
    go_wp2_with (first
      | (go_at_call 15; refine (iTaskValid_any _ _ _ _ _ _).mono ?_; rintro e w' ⟨rfl, rfl⟩)
      | (go_at_call 17; refine (sTaskValid_any _ _ _ _ _ _).mono ?_; rintro e w' ⟨rfl, rfl⟩)
      | (go_at_call 16; refine (sFormatTask_any _ _ _ _ _ _).mono ?_; rintro e w4 ⟨rfl, hb⟩
         have HB4 := Lib.hid (bl_trans (bl_alloc (bl_alloc HB3.out _) _) hb)
         have s4 : w3.heap.size < w4.heap.size := by have := hb.size; simp at this; omega
         obtain ⟨d0, d1, d2, d3, d4⟩ := t5_kept w1.heap.size lo hi du ev cr hb (by simp; omega) (by simp [T5, go_sem, *])
         clear hb c0 c1 c2' c3 c4))
    refine (drawParse_any _ A2 n2 c2 f2 ?_).mono ?_
    · exact H2.out.belowAll (bl_alloc HB4.out _)
    rintro e w5 ⟨l, rfl, hl, hb⟩
    have HB5 := Lib.hid (bl_trans (bl_alloc HB4.out _) hb)
    clear hb HB4
    obtain ⟨xo, xi, xu, xe, xr, xb, hp, ho, hi_, hs_⟩ := parsers l (by omega)
    have HHf := Lib.hid (half_of hp ho)
    have HI := Lib.hid hi_
    have HS := Lib.hid hs_
    clear hi_ hs_ hp ho
    go_wp2_with fail
    refine (HI.out _ (HV.out.below HB5.out)).mono ?_
    rintro e w6 ⟨rfl, hb⟩
    have HB6 := Lib.hid (bl_trans HB5.out hb)
    clear hb HI HB5
    go_wp2_with fail
    refine (HS.out _).mono ?_
    rintro e w7 ⟨rfl, hb⟩
    have HB7 := Lib.hid (bl_trans (bl_alloc HB6.out _) hb)
    have s7 : w6.heap.size < w7.heap.size := by have := hb.size; simp at this; omega
    obtain ⟨g0, g1, g2, g3, g4⟩ := t5_kept w6.heap.size xo xi xu xe xr hb (by simp) (by simp [T5, go_sem])
    clear hb HS HB6
    cases xb
    · go_wp2
      go_ret
      exact ⟨rfl, bl_alloc HB7.out _⟩
    · have hh : textL xo xi xu xe xr = l := HHf.out rfl
      have HH := Lib.hid hh
      clear hh
      go_wp2_with fail
      refine (iFormatTask_any _ _ _ _ _ _).mono ?_
      rintro e w8 ⟨rfl, hb⟩
      have HB8 := Lib.hid (bl_trans (bl_alloc HB7.out _) hb)
      clear hb
      rw [HH.out]
      go_wp2
      go_ret
      exact ⟨by simp, HB8.out⟩
  · obtain rfl : b = true := by rw [HR.out.1, hvv]
    obtain ⟨rfl, rfl, rfl, rfl, rfl⟩ := HR.out.2 rfl
    clear HR htl
    go_wp2_with (first
      | (go_at_call 15; refine (iTaskValid_any _ _ _ _ _ _).mono ?_; rintro e w' ⟨rfl, rfl⟩)
      | (go_at_call 17; refine (sTaskValid_any _ _ _ _ _ _).mono ?_; rintro e w' ⟨rfl, rfl⟩)
      | (go_at_call 16; refine (sFormatTask_any _ _ _ _ _ _).mono ?_; rintro e w4 ⟨rfl, hb⟩
         have HB4 := Lib.hid (bl_trans (bl_alloc (bl_alloc HB3.out _) _) hb)
         have s4 : w3.heap.size < w4.heap.size := by have := hb.size; simp at this; omega
         obtain ⟨d0, d1, d2, d3, d4⟩ := t5_kept w1.heap.size lo' hi' du' ev' cr' hb (by simp; omega) (by simp [T5, go_sem, *])
         have s5 : w1.heap.size < w4.heap.size := by omega
         obtain ⟨e0, e1, e2, e3, e4⟩ := t5_kept w3.heap.size lo' hi' du' ev' cr' hb (by simp; omega) (by simp [T5, go_sem])
         clear hb c0 c1 c2' c3 c4))
    refine (drawParse_any _ A2 n2 c2 f2 ?_).mono ?_
    · exact H2.out.belowAll (bl_alloc HB4.out _)
    rintro e w5 ⟨l, rfl, hl, hb⟩
    have HB5 := Lib.hid (bl_trans (bl_alloc HB4.out _) hb)
    clear hb HB4
    obtain ⟨xo, xi, xu, xe, xr, xb, hp, ho, hi_, hs_⟩ := parsers l (by omega)
    have HHf := Lib.hid (half_of hp ho)
    have HI := Lib.hid hi_
    have HS := Lib.hid hs_
    clear hi_ hs_ hp ho
    go_wp2_with fail
    refine (HI.out _ (HV.out.below HB5.out)).mono ?_
    rintro e w6 ⟨rfl, hb⟩
    have HB6 := Lib.hid (bl_trans HB5.out hb)
    clear hb HI HB5
    go_wp2_with fail
    refine (HS.out _).mono ?_
    rintro e w7 ⟨rfl, hb⟩
    have HB7 := Lib.hid (bl_trans (bl_alloc HB6.out _) hb)
    have s7 : w6.heap.size < w7.heap.size := by have := hb.size; simp at this; omega
    obtain ⟨g0, g1, g2, g3, g4⟩ := t5_kept w6.heap.size xo xi xu xe xr hb (by simp) (by simp [T5, go_sem])
    clear hb HS HB6
    cases xb
    · go_wp2
      go_ret
      exact ⟨rfl, bl_alloc HB7.out _⟩
    · have hh : textL xo xi xu xe xr = l := HHf.out rfl
      have HH := Lib.hid hh
      clear hh
      go_wp2_with fail
      refine (iFormatTask_any _ _ _ _ _ _).mono ?_
      rintro e w8 ⟨rfl, hb⟩
      have HB8 := Lib.hid (bl_trans (bl_alloc HB7.out _) hb)
      clear hb
      rw [HH.out]
      go_wp2
      go_ret
      exact ⟨by simp, HB8.out⟩

end Go.Proofs.YtnhffadebjibnabDoor
