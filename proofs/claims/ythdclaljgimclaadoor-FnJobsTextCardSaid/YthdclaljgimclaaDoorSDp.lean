/- Contract of what the reference draws as texts of jobs: a string of few bytes; nothing that was there is written. -/
import Derived.Test.YthdclaljgimclaaDoorSDa
import Derived.Test.YthdclaljgimclaaDoorSFj
import Derived.Test.YthdclaljgimclaaDoorDt
import Derived.Test.YthdclaljgimclaaDoorCutX
import Derived.Deep.RegionHeld3
import Derived.Lib.SmallJoins
namespace Go.Proofs.YthdclaljgimclaaDoor
open Go.RowKit
set_option linter.unusedVariables false

theorem Rd.belowAll {w w' : World} {B g : Nat} {A : Option Addr} {n c : Nat} {f : Nat → Int} {p : Nat} (h : Rd w B g A n c f p) (hb : Below w.heap.size w w') : Rd w' B g A n c f p :=
  h.grown (row := none) ⟨hb.os, hb.tape, hb.output, hb.size, fun i hi _ => hb.block i hi⟩ (fun k e => by cases e)
theorem gb_below {a w : World} {row : Option Nat} (h : Below a.heap.size a w) : a.grownBy w row := ⟨h.os, h.tape, h.output, h.size, fun i hi _ => h.block i hi⟩
/-- What a draw from a list of strings leaves: one of few bytes; the reader one on. -/
def OneOf (B g : Nat) (A : Option Addr) (n c : Nat) (f : Nat → Int) (p : Nat) (w : World) (e : Ending) (w' : World) : Prop :=
  ∃ l : List UInt8, e = .returned (str l) ∧ l.length ≤ 4 ∧ Rd w' B g A n c f (p + 1) ∧ w.grownBy w' (some g)

set_option maxHeartbeats 1000000 in
theorem of_any (w : World) (B g : Nat) (A : Option Addr) (n c : Nat) (f : Nat → Int) (p : Nat) (h k : Nat) (hr : Rd w B g A n c f p) (hp : p ≤ 1000000)
    (hk1 : 1 ≤ k) (hk2 : k ≤ 1000) (hne : h ≠ g) (hcells : ∀ i, i < k → ∃ l, w.cell? ⟨h, i, none⟩ = some (str l) ∧ l.length ≤ 4) :
    Calls Tryd.prog 38 #[.pointer (some ⟨g, 0, none⟩), .slice (some ⟨h, 0, none⟩) k k] w (OneOf B g A n c f p w) := by
  have HR := Lib.hid hr
  have HC := Lib.hid hcells
  clear hr hcells
  go_enter Tryd.func38, Tryd.ntmps38
  go_wp2_with fail
  refine (pick_any w B g A n c f p k HR.out hp (by omega)).mono ?_
  rintro e w' ⟨v, rfl, h0, h1, h2, hr', hg⟩
  have h1' := h1 (by omega)
  clear h1 h2
  obtain ⟨j, rfl⟩ := Int.eq_ofNat_of_zero_le h0
  have hj : j < k := by omega
  obtain ⟨x, hx, hx1⟩ := HC.out j hj
  have hx' : w'.cell? ⟨h, j, none⟩ = some (str x) := hg.cell hx (fun e => hne (by injection e))
  have HR' := Lib.hid hr'
  have HG := Lib.hid hg
  clear hr' hg hx
  go_wp2_with fail
  go_ret
  exact ⟨x, rfl, hx1, HR'.out, HG.out⟩

/-- A drawn text. -/
def DrewStr (w : World) (e : Ending) (w' : World) : Prop := ∃ l : List UInt8, e = .returned (str l) ∧ l.length ≤ 1000 ∧ Below w.heap.size w w'

theorem lits_at (w : World) (cs : Array Value) (g k : Nat) (hg : g = w.heap.size) (h : ∀ i, i < k → ∃ l, cs[i]? = some (str l) ∧ l.length ≤ 4) :
    ∀ i, i < k → ∃ l, (w.alloc (.cells cs 9)).cell? ⟨g, i, none⟩ = some (str l) ∧ l.length ≤ 4 := fun i hi => by
  subst hg
  obtain ⟨l, hl, h1⟩ := h i hi
  exact ⟨l, by rw [(Blk.new w 9 cs).cell i]; exact hl, h1⟩

set_option maxRecDepth 100000 in
set_option maxHeartbeats 4000000 in
theorem dDrawParseJobs_any (w : World) (A : Option Addr) (n c : Nat) (f : Nat → Int) (h : Code w w.heap.size A n c f) :
    Calls Tryd.prog 15 #[.slice A n c] w (DrewStr w) := by
  have H := Lib.hid h
  clear h
  go_enter Tryd.func15, Tryd.ntmps15
  go_wp2_with fail
  refine (l6Case_any _ A n c f H.out).mono ?_
  rintro e w1 ⟨A2, c2, ts, g2, c3, js, rfl, _, _, hjl, hsj, _, hj, hb⟩
  have HB1 := Lib.hid hb
  have HJ1 := Lib.hid hj.reads.2
  have HC1 := Lib.hid (H.out.bel hb)
  have hl1 := fmt_len js
  obtain ⟨l, hfl⟩ : ∃ l, fmtJ js = l := ⟨_, rfl⟩
  rw [hfl] at hl1
  have HF := Lib.hid hfl
  clear hb hj hsj hfl H
  go_wp2_with fail
  refine (sFmtJ_to _ (some ⟨g2, 0, none⟩) js.length c3 js HJ1.out l HF.out).mono ?_
  rintro e w2 ⟨rfl, hb⟩
  have HB2 := Lib.hid (bl_trans HB1.out hb)
  have HC2 := Lib.hid (HC1.out.bel hb)
  clear hb HF HJ1 HC1
  go_wp2_with fail
  refine (open_any _ A n c f HC2.out).mono ?_
  rintro e w3 ⟨rfl, m, hr, hb⟩
  have HR3 := Lib.hid hr
  have HB3 := Lib.hid (bl_trans HB2.out hb)
  have s3 : w2.heap.size ≤ w3.heap.size := hb.size
  clear hr hb
  by_cases hl0 : l = []
  · subst hl0
    go_wp2
    go_ret
    exact ⟨[], rfl, by simp, HB3.out⟩
  have hl2 : 0 < l.length := List.length_pos_iff.2 hl0
  have tl : ((l.length : Int) == 0) = false := by rw [beq_eq_false_iff_ne]; omega
  clear hl0
  go_wp2_with fail
  refine (pick_any _ _ _ A _ c f _ 2 HR3.out (by omega) (by omega)).mono ?_
  rintro e w4 ⟨y, rfl, hy0, _, _, hr, hg⟩
  have HR4 := Lib.hid hr
  have HG4 := Lib.hid hg
  clear hr hg
  by_cases hy : y = 0
  · subst hy
    go_wp2
    go_ret
    exact ⟨l, rfl, by omega, below_of_gb HB3.out HG4.out HB3.out.size (by have := HB2.out.size; omega)⟩
  have ty : (y == 0) = false := by simpa using hy
  clear hy
  go_wp2_with fail
  refine (pick_any _ _ _ A _ c f _ (l.length : Int) HR4.out (by omega) (by omega)).mono ?_
  rintro e w5 ⟨z, rfl, hz0, hz1, hz2, hr, hg⟩
  have hz := hz1 (by omega)
  have HR5 := Lib.hid hr
  have HG5 := Lib.hid (gb_trans HG4.out hg (fun x e => .inl (by injection e with e; exact e.symm)))
  clear hr hg HR4 HG4 hz1 hz2
  obtain ⟨k, rfl⟩ := Int.eq_ofNat_of_zero_le hz0
  have hk : k < l.length := by omega
  have hgl := HR5.out.lt
  obtain ⟨a, ha⟩ : ∃ a, a = (l.drop 0).take (k - 0) := ⟨_, rfl⟩
  have hxa : (⟨l.toArray⟩ : ByteArray).extract 0 k = ⟨a.toArray⟩ := by rw [ha]; exact ext_str l 0 k
  have hal : a.length ≤ 720 := by rw [ha]; simp; omega
  have hak : a.length ≤ k := by rw [ha]; simp; omega
  have hk1 : (0 : Int) ≤ (k : Int) := by omega
  have hk2 : (k : Int) ≤ (l.length : Int) := by omega
  clear ha
  go_wp2_with fail
  have hcl := lits_at w5 #[str [], str [32], str [64], str [58], str [48], str [49]] w5.heap.size 6 rfl (fun i hi => by rcases (by omega : i = 0 ∨ i = 1 ∨ i = 2 ∨ i = 3 ∨ i = 4 ∨ i = 5) with rfl | rfl | rfl | rfl | rfl | rfl <;> exact ⟨_, rfl, by decide⟩)
  have HCL := Lib.hid hcl
  clear hcl
  have hne5 : w5.heap.size ≠ w2.heap.size := by omega
  go_region_held3 (fun _ => True) (exact True.intro)
    (first
      | (go_at_call 38
         refine (of_any _ w2.heap.size w2.heap.size A m c f 2 w5.heap.size 6 ?_ (by omega) (by omega) (by omega) hne5 ?_).mono ?_
         · exact ⟨(HR5.out.alloc _).blk, HR5.out.ge, HR5.out.len, (HR5.out.alloc _).at_, HR5.out.byte⟩
         · exact HCL.out
         rintro e w6 ⟨x, rfl, hx, hr, hg⟩
         have HR6 := Lib.hid hr
         have HG6 := Lib.hid (gb_trans (gb_alloc HG5.out _) (show (w5.alloc _).grownBy w6 _ from ⟨hg.os, hg.tape, hg.output, hg.size, hg.block⟩) (fun x e => .inl (by injection e with e; exact e.symm)))
         have kx1 : ¬ 9223372036854775807 < a.length + x.length := by omega
         clear hr hg)
      | (go_at_call 37
         refine (pick_any _ w2.heap.size w2.heap.size A m c f 3 2 ?_ (by omega) (by omega)).mono ?_
         · exact ⟨HR6.out.blk, HR6.out.ge, HR6.out.len, HR6.out.at_, HR6.out.byte⟩
         rintro e w7 ⟨q, rfl, hq0, hq1, hq2, hr, hg⟩
         have hq := hq1 (by omega)
         have HR7 := Lib.hid hr
         have HG7 := Lib.hid (gb_trans HG6.out (show w6.grownBy w7 _ from ⟨hg.os, hg.tape, hg.output, hg.size, hg.block⟩) (fun x e => .inl (by injection e with e; exact e.symm)))
         obtain ⟨j, rfl⟩ := Int.eq_ofNat_of_zero_le hq0
         have kw : IntKind.i64.wrap ((k : Int) + (j : Int)) = (k : Int) + (j : Int) := IntWalk.i64_in _ (by omega)
         have kl1 : (0 : Int) ≤ (k : Int) + (j : Int) := by omega
         have kl2 : (k : Int) + (j : Int) ≤ (l.length : Int) := by omega
         obtain ⟨b, hb⟩ : ∃ b, b = (l.drop (k + j)).take (l.length - (k + j)) := ⟨_, rfl⟩
         have hxb : (⟨l.toArray⟩ : ByteArray).extract (k + j) l.length = ⟨b.toArray⟩ := by rw [hb]; exact ext_str l (k + j) l.length
         have hxn : ((k : Int) + (j : Int)).toNat = k + j := by omega
         have hbl : b.length ≤ 720 := by rw [hb]; simp; omega
         have habl : a.length + b.length ≤ 900 := by rw [hb]; simp; omega
         have kx2 : ¬ 9223372036854775807 < a.length + x.length + b.length := by omega
         clear hr hg hb hq1 hq2))
  go_wp2
  go_ret
  exact ⟨a ++ x ++ b, congrArg Ending.returned (congrArg Value.string (ByteArray.ext (by simp [ByteArray.data_append]))), by simp; omega, below_of_gb HB3.out HG7.out HB3.out.size (by have := HB2.out.size; omega)⟩

end Go.Proofs.YthdclaljgimclaaDoor
