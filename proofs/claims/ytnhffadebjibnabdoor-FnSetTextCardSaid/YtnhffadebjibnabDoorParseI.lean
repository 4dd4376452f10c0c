/- Contracts of ParseTask of the program: a text is read as 'parsedT' says; nothing that was there is written. -/
import Derived.Test.YtnhffadebjibnabDoorRead
import Derived.Test.YtnhffadebjibnabDoorFmt
import Derived.Test.YtnhffadebjibnabDoorShC
import Derived.Test.YtnhffadebjibnabDoorShN
import Derived.Lib.ConvBytes
import Derived.Lib.SmallJoins
namespace Go.Proofs.YtnhffadebjibnabDoor
open Go.RowKit

/-- What the walk asks of the variables of the library: a number, and two errors. -/
structure Vars (w : World) : Prop where
  ml : ∃ m, w.cell? ⟨1, 0, none⟩ = some (.int .i64 m)
  sy : ∃ te pe, w.cell? ⟨2, 0, none⟩ = some (.iface te pe)
  ra : ∃ te pe, w.cell? ⟨3, 0, none⟩ = some (.iface te pe)

theorem Vars.below {w w' : World} (h : Vars w) (hb : Below w.heap.size w w') : Vars w' := by
  obtain ⟨⟨m, h1⟩, ⟨t2, p2, h2⟩, ⟨t3, p3, h3⟩⟩ := h
  exact ⟨⟨m, (hb.cell (block_lt_of_cell h1)).trans h1⟩, ⟨t2, p2, (hb.cell (block_lt_of_cell h2)).trans h2⟩, ⟨t3, p3, (hb.cell (block_lt_of_cell h3)).trans h3⟩⟩

def IntRes (n : Int) (w : World) (e : Ending) (w' : World) : Prop := e = .returned (.int .i64 n) ∧ Below w.heap.size w w'

set_option maxRecDepth 100000 in
set_option maxHeartbeats 1000000 in
theorem number_any (w : World) (l : List UInt8) (hl : l.length ≤ 4000000) (hv : Vars w) :
    Calls Tryd.prog 56 #[str l] w (IntRes (numI l) w) := by
  have hsz : (⟨l.toArray⟩ : ByteArray).size = l.length := by simp [ByteArray.size]
  rcases he : Lib.atoiAll l with v | _ | _
  · go_enter Tryd.func56, Tryd.ntmps56
    go_wp2_with fail
    refine (Any.strconv_Atoi_ok Tryd.laysC172 ⟨l.toArray⟩ (by omega) v he _).mono ?_
    rintro e w1 ⟨rfl, hw⟩
    have HB : Hid (Below w.heap.size w w1) := by
      rcases hw with rfl | ⟨t, rfl⟩
      · exact Below.refl _ _
      · exact Go.Joins.below_bytesWorld _ _ _ _ (Nat.le_refl _)
    clear hw
    go_wp2
    go_ret
    exact ⟨by rw [numI, he]; rfl, HB.out⟩
  · obtain ⟨te, pe, hc⟩ := hv.sy
    go_enter Tryd.func56, Tryd.ntmps56
    go_wp2_with fail
    refine (Any.strconv_Atoi_syntax Tryd.laysC172 ⟨l.toArray⟩ (by omega) he _ _ hc (.inr ⟨te, pe, rfl⟩)).mono ?_
    rintro e w1 ⟨N, rfl, hN, hb, hbl⟩
    have HB := Lib.hid hbl
    clear hbl hb
    go_wp2
    go_ret
    exact ⟨by rw [numI, he]; rfl, HB.out⟩
  · obtain ⟨te, pe, hc⟩ := hv.ra
    go_enter Tryd.func56, Tryd.ntmps56
    go_wp2_with fail
    refine (Any.strconv_Atoi_range Tryd.laysC172 ⟨l.toArray⟩ (by omega) he _ _ hc (.inr ⟨te, pe, rfl⟩)).mono ?_
    rintro e w1 ⟨N, rfl, hN, hb, hbl⟩
    have HB := Lib.hid hbl
    clear hbl hb
    go_wp2
    go_ret
    exact ⟨by rw [numI, he]; rfl, HB.out⟩

/-- strings.Cut at a separator of fewer bytes than the model's bound. -/
theorem cut_any (w : World) (l : List UInt8) (sep : Array UInt8) (hl : l.length ≤ 4000000) (hv : Vars w) :
    Calls Tryd.prog 55 #[str l, .string ⟨sep⟩] w fun e w' => e = .returned (.tuple #[str (Lib.cut l sep.toList).1, str (Lib.cut l sep.toList).2.1, .bool (Lib.cut l sep.toList).2.2]) ∧ Below w.heap.size w w' := by
  obtain ⟨m, hm⟩ := hv.ml
  refine (Any.strings_Cut { Tryd.laysM145 with } ⟨l.toArray⟩ ⟨sep⟩ m w (by simp [ByteArray.size]; omega) hm).mono ?_
  rintro e w' ⟨rfl, n, rfl⟩
  exact ⟨rfl, bl_drewN (Below.refl _ _) n⟩

theorem cut_len (l s : List UInt8) : (Lib.cut l s).1.length ≤ l.length ∧ (Lib.cut l s).2.1.length ≤ l.length := by
  unfold Lib.cut
  split
  · simp; omega
  · simp

def TkRes (t : Tk) (w : World) (e : Ending) (w' : World) : Prop := e = .returned (.agg #[.int .i64 t.lo, .int .i64 t.hi, .int .i64 t.du, .int .i64 t.ev, .bool t.cr]) ∧ Below w.heap.size w w'

set_option maxRecDepth 100000 in
set_option maxHeartbeats 2000000 in
theorem readTask_any (w : World) (l : List UInt8) (hl : l.length ≤ 2000000) (hv : Vars w) :
    Calls Tryd.prog 40 #[str l] w (TkRes (readI l) w) := by
  obtain ⟨m, hm⟩ : ∃ m, m = Lib.cut l everyL := ⟨_, rfl⟩
  obtain ⟨q, hq⟩ : ∃ q, q = Lib.cut m.1 [47] := ⟨_, rfl⟩
  obtain ⟨y, hy⟩ : ∃ y, y = Lib.cut m.2.1 byL := ⟨_, rfl⟩
  have hR : readI l = ⟨numI q.1, if q.2.2 then numI q.2.1 else numI q.1, if y.2.2 then numI y.2.1 else numI y.1, numI y.1, q.2.2⟩ := by
    rw [hq, hy, hm]; rfl
  obtain ⟨lm1, lm2⟩ : m.1.length ≤ 2000000 ∧ m.2.1.length ≤ 2000000 := by
    obtain ⟨a, b⟩ := cut_len l everyL
    rw [← hm] at a b
    exact ⟨by omega, by omega⟩
  obtain ⟨lq1, lq2⟩ : q.1.length ≤ 2000000 ∧ q.2.1.length ≤ 2000000 := by
    obtain ⟨a, b⟩ := cut_len m.1 [47]
    rw [← hq] at a b
    exact ⟨by omega, by omega⟩
  obtain ⟨ly1, ly2⟩ : y.1.length ≤ 2000000 ∧ y.2.1.length ≤ 2000000 := by
    obtain ⟨a, b⟩ := cut_len m.2.1 byL
    rw [← hy] at a b
    exact ⟨by omega, by omega⟩
  have hc1 := fun W (h : Vars W) => cut_any W l #[32, 101, 118, 101, 114, 121, 32] (by omega) h
  have hc2 := fun W (h : Vars W) => cut_any W m.1 #[47] (by omega) h
  have hc3 := fun W (h : Vars W) => cut_any W m.2.1 #[32, 98, 121, 32] (by omega) h
  rw [show (#[32, 101, 118, 101, 114, 121, 32] : Array UInt8).toList = everyL from rfl, ← hm] at hc1
  rw [show (#[47] : Array UInt8).toList = [47] from rfl, ← hq] at hc2
  rw [show (#[32, 98, 121, 32] : Array UInt8).toList = byL from rfl, ← hy] at hc3
  rw [hR]
  clear hR hq hy hm
  obtain ⟨m1, m2, m3⟩ := m
  obtain ⟨q1, q2, q3⟩ := q
  obtain ⟨y1, y2, y3⟩ := y
  dsimp only at hc1 hc2 hc3 lm1 lm2 lq1 lq2 ly1 ly2 ⊢
  obtain ⟨z1, hz1⟩ : ∃ z, z = (if q3 = true then numI q2 else numI q1) := ⟨_, rfl⟩
  obtain ⟨z2, hz2⟩ : ∃ z, z = (if y3 = true then numI y2 else numI y1) := ⟨_, rfl⟩
  rw [← hz1, ← hz2]
  have HZ1 := Lib.hid hz1
  have HZ2 := Lib.hid hz2
  clear hz1 hz2
  have HC1 := Lib.hid hc1
  have HC2 := Lib.hid hc2
  have HC3 := Lib.hid hc3
  have HV := Lib.hid hv
  clear hc1 hc2 hc3 hv
  go_enter Tryd.func40, Tryd.ntmps40
  go_wp2_with fail
  refine (HC1.out _ (HV.out.below (bl_alloc (Below.refl _ _) _))).mono ?_
  rintro e w1 ⟨rfl, hb⟩
  have HB1 := Lib.hid (bl_trans (bl_alloc (Below.refl w.heap.size w) _) hb)
  have bR := Lib.hid ((Blk.new w 24 _).below hb (by simp))
  have s1 : w.heap.size < w1.heap.size := bR.out.lt
  clear hb HC1
  go_wp2_with fail
  refine (HC2.out _ (HV.out.below HB1.out)).mono ?_
  rintro e w2 ⟨rfl, hb⟩
  have HB2 := Lib.hid (bl_trans HB1.out hb)
  have bR2 := Lib.hid (bR.out.below hb (by omega))
  have s2 : w.heap.size < w2.heap.size := bR2.out.lt
  clear hb HC2 HB1 bR
  go_wp2_with fail
  refine (HC3.out _ (HV.out.below HB2.out)).mono ?_
  rintro e w3 ⟨rfl, hb⟩
  have HB3 := Lib.hid (bl_trans HB2.out hb)
  have bR3 := Lib.hid (bR2.out.below hb (by omega))
  have s3 : w.heap.size < w3.heap.size := bR3.out.lt
  clear hb HC3 HB2 bR2
  go_wp2_with fail
  refine (number_any _ q1 (by omega) (HV.out.below HB3.out)).mono ?_
  rintro e w4 ⟨rfl, hb⟩
  have HB4 := Lib.hid (bl_trans HB3.out hb)
  have bR4 := Lib.hid (bR3.out.below hb (by omega))
  have s4 : w.heap.size < w4.heap.size := bR4.out.lt
  clear hb HB3 bR3
  go_wp2_with fail
  refine (number_any _ y1 (by omega) (HV.out.below HB4.out)).mono ?_
  rintro e w5 ⟨rfl, hb⟩
  have HB5 := Lib.hid (bl_trans HB4.out hb)
  have bR5 := Lib.hid (bR4.out.below hb (by omega))
  have s5 : w.heap.size < w5.heap.size := bR5.out.lt
  clear hb HB4 bR4
  have cR := bR5.out.cell
  have fR := bR5.out.frozen
  cases q3
  · obtain rfl : z1 = numI q1 := HZ1.out
    cases y3
    · obtain rfl : z2 = numI y1 := HZ2.out
      go_wp2
      have bF := Blk.alloc (((((Blk.set_ (bR5.out) 0 (.int .i64 (numI q1))).set_ 1 (.int .i64 (numI q1))).set_ 2 (.int .i64 (numI y1))).set_ 3 (.int .i64 (numI y1))).set_ 4 (.bool false)) (.cells #[.int .i64 (numI q1), .int .i64 (numI q1), .int .i64 (numI y1), .int .i64 (numI y1), .bool false] 24)
      have cF := bF.cell
      refine bodyPost_ret (v := .agg #[.int .i64 (numI q1), .int .i64 (numI q1), .int .i64 (numI y1), .int .i64 (numI y1), .bool false]) (by simp [results, Tryd.results40, go_sem, cF]) rfl ⟨rfl, ?_⟩
      exact bl_alloc (bl_set (bl_set (bl_set (bl_set (bl_set (HB5.out) (by dsimp only; omega) _) (by dsimp only; omega) _) (by dsimp only; omega) _) (by dsimp only; omega) _) (by dsimp only; omega) _) _
    · obtain rfl : z2 = numI y2 := HZ2.out
      go_wp2_with fail
      refine (number_any _ y2 (by omega) ?_).mono ?_
      · exact HV.out.below (bl_alloc HB5.out _)
      rintro e w7 ⟨rfl, hb⟩
      have HB7 := Lib.hid (bl_trans (bl_alloc HB5.out _) hb)
      have s7 : w5.heap.size < w7.heap.size := by have := hb.size; first | omega | (simp at this; omega) | (simp [World.setCell] at this; omega)
      have bR7 := (Blk.alloc bR5.out _).below hb (by simp; omega)
      have bT7 : Blk w7 w5.heap.size 24 #[.int .i64 (numI q1), .int .i64 (numI q1), .int .i64 (numI y1), .int .i64 (numI y1), .bool false] := (Blk.new w5 24 _).below hb (by simp)
      have cT := bT7.cell
      have fT := bT7.frozen
      clear cR fR hb
      have cR := bR7.cell
      have fR := bR7.frozen
      have BR7 := Lib.hid bR7
      clear bR7 bT7
      go_wp2
      have bF := (((((Blk.set_ ((Blk.far (p := ⟨w5.heap.size, 2, none⟩) BR7.out (by dsimp only; omega) (.int .i64 (numI y2)))) 0 (.int .i64 (numI q1))).set_ 1 (.int .i64 (numI q1))).set_ 2 (.int .i64 (numI y2))).set_ 3 (.int .i64 (numI y1))).set_ 4 (.bool false))
      have cF := bF.cell
      refine bodyPost_ret (v := .agg #[.int .i64 (numI q1), .int .i64 (numI q1), .int .i64 (numI y2), .int .i64 (numI y1), .bool false]) (by simp [results, Tryd.results40, go_sem, cF]) rfl ⟨rfl, ?_⟩
      exact bl_set (bl_set (bl_set (bl_set (bl_set (bl_set (HB7.out) (by dsimp only; omega) _) (by dsimp only; omega) _) (by dsimp only; omega) _) (by dsimp only; omega) _) (by dsimp only; omega) _) (by dsimp only; omega) _
  · obtain rfl : z1 = numI q2 := HZ1.out
    go_wp2_with fail
    refine (number_any _ q2 (by omega) ?_).mono ?_
    · exact HV.out.below (bl_alloc HB5.out _)
    rintro e w6 ⟨rfl, hb⟩
    have HB6 := Lib.hid (bl_trans (bl_alloc HB5.out _) hb)
    have s6 : w5.heap.size < w6.heap.size := by have := hb.size; simp at this; omega
    have bR6 := Lib.hid ((Blk.alloc bR5.out _).below hb (by simp; omega))
    have bT6 := Lib.hid (show Blk w6 w5.heap.size 24 #[.int .i64 (numI q1), .int .i64 (numI q1), .int .i64 (numI y1), .int .i64 (numI y1), .bool true] from (Blk.new w5 24 _).below hb (by simp))
    have cT := bT6.out.cell
    have fT := bT6.out.frozen
    clear cR fR hb
    have cR := bR6.out.cell
    have fR := bR6.out.frozen
    cases y3
    · obtain rfl : z2 = numI y1 := HZ2.out
      go_wp2
      have bF := (((((Blk.set_ ((Blk.far (p := ⟨w5.heap.size, 1, none⟩) bR6.out (by dsimp only; omega) (.int .i64 (numI q2)))) 0 (.int .i64 (numI q1))).set_ 1 (.int .i64 (numI q2))).set_ 2 (.int .i64 (numI y1))).set_ 3 (.int .i64 (numI y1))).set_ 4 (.bool true))
      have cF := bF.cell
      refine bodyPost_ret (v := .agg #[.int .i64 (numI q1), .int .i64 (numI q2), .int .i64 (numI y1), .int .i64 (numI y1), .bool true]) (by simp [results, Tryd.results40, go_sem, cF]) rfl ⟨rfl, ?_⟩
      exact bl_set (bl_set (bl_set (bl_set (bl_set (bl_set (HB6.out) (by dsimp only; omega) _) (by dsimp only; omega) _) (by dsimp only; omega) _) (by dsimp only; omega) _) (by dsimp only; omega) _) (by dsimp only; omega) _
    · obtain rfl : z2 = numI y2 := HZ2.out
      go_wp2_with fail
      refine (number_any _ y2 (by omega) ?_).mono ?_
      · exact HV.out.below (bl_set (HB6.out) (by dsimp only; omega) _)
      rintro e w7 ⟨rfl, hb⟩
      have HB7 := Lib.hid (bl_trans (bl_set (HB6.out) (by dsimp only; omega) _) hb)
      have s7 : w5.heap.size < w7.heap.size := by have := hb.size; first | omega | (simp at this; omega) | (simp [World.setCell] at this; omega)
      have bR7 := (Blk.far bR6.out (by dsimp only; omega) _).below hb (by first | omega | (simp [World.setCell]; omega))
      have bT7 : Blk w7 w5.heap.size 24 #[.int .i64 (numI q1), .int .i64 (numI q2), .int .i64 (numI y1), .int .i64 (numI y1), .bool true] := (bT6.out.set_ 1 (.int .i64 (numI q2))).below hb (by first | omega | (simp [World.setCell]; omega))
      have cT := bT7.cell
      have fT := bT7.frozen
      clear cR fR hb
      have cR := bR7.cell
      have fR := bR7.frozen
      have BR7 := Lib.hid bR7
      clear bR7 bT7
      go_wp2
      have bF := (((((Blk.set_ ((Blk.far (p := ⟨w5.heap.size, 2, none⟩) BR7.out (by dsimp only; omega) (.int .i64 (numI y2)))) 0 (.int .i64 (numI q1))).set_ 1 (.int .i64 (numI q2))).set_ 2 (.int .i64 (numI y2))).set_ 3 (.int .i64 (numI y1))).set_ 4 (.bool true))
      have cF := bF.cell
      refine bodyPost_ret (v := .agg #[.int .i64 (numI q1), .int .i64 (numI q2), .int .i64 (numI y2), .int .i64 (numI y1), .bool true]) (by simp [results, Tryd.results40, go_sem, cF]) rfl ⟨rfl, ?_⟩
      exact bl_set (bl_set (bl_set (bl_set (bl_set (bl_set (HB7.out) (by dsimp only; omega) _) (by dsimp only; omega) _) (by dsimp only; omega) _) (by dsimp only; omega) _) (by dsimp only; omega) _) (by dsimp only; omega) _

end Go.Proofs.YtnhffadebjibnabDoor
