/- Contracts of FormatShare, in the program and in the reference: both return the text of a share, and write nothing that was there. -/
import Derived.Test.YtbaecbibkmdbiacDoorMk
import Derived.Test.YtbaecbibkmdbiacDoorDec
import Derived.Test.YtbaecbibkmdbiacDoorShB
import Derived.Test.YtbaecbibkmdbiacDoorTwo2
import Derived.Lib.LaidTab
import Derived.Laws.Concat
import Derived.Deep.RegionWith
import Derived.Deep.RegionHeld3
namespace Go.Proofs.YtbaecbibkmdbiacDoor
open Go.RowKit
set_option linter.unusedVariables false

/-- The text of a share; of one that is not valid it is empty. -/
def txtS (p q : Nat) : List UInt8 := if q = 1 then Lib.decDigits p else Lib.decDigits p ++ 47 :: Lib.decDigits q
def fmtS (n d : Int) : List UInt8 := if shB n d then txtS n.toNat d.toNat else []

/-- The library's table of powers lies as its text lays it. -/
def TG (w : World) : Prop := Lib.TabIs Tryd.prog w "internal/strconv.uint64pow10" .u64 Lib.pow10Tab
theorem var_kept {P : Program} {W W' : World} {n : String} {cs : Array Value} (h : W.var? P n = some cs) (hb : Below W.heap.size W W') : W'.var? P n = some cs := by
  unfold World.var? at h ⊢
  cases hg : P.globalNamed n with
  | none => simp [hg] at h
  | some g =>
    simp only [hg, Option.bind_some] at h ⊢
    have hlt : g < W.heap.size := by
      rcases Nat.lt_or_ge g W.heap.size with h' | h'
      · exact h'
      · simp [Array.getElem?_eq_none h'] at h
    rw [hb.block g hlt]
    exact h
theorem TG.below {w w' : World} (h : TG w) (hb : Below w.heap.size w w') : TG w' := var_kept h hb

theorem bl_grow (w : World) (k : Nat) (os : Array Obj) : Below w.heap.size w (Go.Sort.grow (w.drewN k) os) :=
  ⟨rfl, rfl, rfl, by show _ ≤ (w.heap ++ os).size; simp, fun i hi => by
    show (w.heap ++ os)[i]? = w.heap[i]?
    exact Array.getElem?_append_left hi⟩
theorem itoa_tab (w : World) (m : Nat) (hm : m ≤ 1000000000) (ht : TG w) :
    Calls Tryd.prog 15 #[.int .i64 m] w (StrRes (Lib.decDigits m) w) := by
  refine (Any.strconv_Itoa Tryd.laysM171 (m : Int) (by omega) (by omega) w ht).mono ?_
  rintro e w' ⟨rfl, k, os, rfl⟩
  refine ⟨?_, bl_grow w k os⟩
  have : Lib.itoa (m : Int) = Lib.decDigits m := by unfold Lib.itoa; rw [if_neg (by omega)]; simp
  rw [this]
theorem dig_len {m : Nat} (h : m ≤ 1000000000) : (Lib.decDigits m).length ≤ 10 := by
  rw [Lib.decDigits_length]
  exact digits_le 9 m (by omega)
theorem over_bytes (a b : List UInt8) : (⟨a.toArray⟩ ++ ⟨#[47]⟩ ++ ⟨b.toArray⟩ : ByteArray) = ⟨(a ++ 47 :: b).toArray⟩ := ByteArray.ext (by simp [ByteArray.data_append])

set_option maxRecDepth 100000 in
set_option maxHeartbeats 1000000 in
theorem iFmt_is (w : World) (n d : Int) (l : List UInt8) (h : fmtS n d = l) (ht : TG w) :
    Calls Tryd.prog 7 #[.agg #[.int .i64 n, .int .i64 d]] w (StrRes l w) := by
  have HT := Lib.hid ht
  clear ht
  cases hv : shB n d
  · obtain rfl : l = [] := by rw [← h]; unfold fmtS; rw [hv]; rfl
    have HV := Lib.hid hv
    clear h hv
    go_enter Tryd.func7, Tryd.ntmps7
    go_wp2_with fail
    refine (iShare_is _ n d false HV.out).mono ?_
    rintro e w1 ⟨rfl, hb⟩
    have HB := Lib.hid (bl_trans (bl_alloc (Below.refl _ w) _) hb)
    clear hb
    go_wp2
    go_ret
    exact ⟨rfl, HB.out⟩
  obtain ⟨a, b, rfl, rfl, hA⟩ := sh_of hv
  have HV := Lib.hid hv
  have hl : l = txtS a b := by rw [← h]; unfold fmtS; rw [hv]; rfl
  obtain ⟨a0, a1, a2, _⟩ := hA
  have l1 := dig_len a1
  have l2 := dig_len a2
  have HI1 := Lib.hid (fun (W : World) (h : TG W) => itoa_tab W a a1 h)
  have HI2 := Lib.hid (fun (W : World) (h : TG W) => itoa_tab W b a2 h)
  by_cases hb1 : b = 1
  · obtain rfl : l = Lib.decDigits a := by rw [hl]; unfold txtS; rw [if_pos hb1]
    have hb2 : ((b : Int) == 1) = true := by rw [beq_iff_eq]; omega
    clear h hv hl hb1
    go_enter Tryd.func7, Tryd.ntmps7
    go_wp2_with fail
    refine (iShare_is _ a b true HV.out).mono ?_
    rintro e w1 ⟨rfl, hb⟩
    have HB := Lib.hid (bl_trans (bl_alloc (Below.refl _ w) _) hb)
    have bS := Lib.hid ((Blk.new w 24 #[.int .i64 (a : Int), .int .i64 (b : Int)]).below hb (by simp))
    have cS := bS.out.cell
    clear hb
    go_wp2_with fail
    refine (HI1.out _ (HT.out.below HB.out)).mono ?_
    rintro e w2 ⟨rfl, hb⟩
    have HB2 := Lib.hid (bl_trans HB.out hb)
    clear hb
    go_wp2
    go_ret
    exact ⟨rfl, HB2.out⟩
  · obtain rfl : l = Lib.decDigits a ++ 47 :: Lib.decDigits b := by rw [hl]; unfold txtS; rw [if_neg hb1]
    have hb2 : ((b : Int) == 1) = false := by rw [beq_eq_false_iff_ne]; omega
    clear h hv hl hb1
    generalize Lib.decDigits a = x at *
    generalize Lib.decDigits b = y at *
    have k1 : ¬ 9223372036854775807 < x.length + 1 := by omega
    have k2 : ¬ 9223372036854775807 < x.length + 1 + y.length := by omega
    go_enter Tryd.func7, Tryd.ntmps7
    go_wp2_with fail
    refine (iShare_is _ a b true HV.out).mono ?_
    rintro e w1 ⟨rfl, hb⟩
    have HB1 := Lib.hid (bl_trans (bl_alloc (Below.refl _ w) _) hb)
    have bS1 := Lib.hid ((Blk.new w 24 #[.int .i64 (a : Int), .int .i64 (b : Int)]).below hb (by simp))
    have hS1 := Blk.two bS1.out
    have cS := bS1.out.cell
    clear hb
    go_wp2_with fail
    go_region_held3 (fun W => W.cell? ⟨w.heap.size, 0, none⟩ = some (.int .i64 (a : Int)) ∧ W.cell? ⟨w.heap.size, 1, none⟩ = some (.int .i64 (b : Int))) (first | exact hS1 | exact hS2 | exact hS3)
      ((first
        | (go_at_call_of 15 (Value.int IntKind.i64 (a : Int)); refine (HI1.out _ (by first | exact HT.out.below HB1.out | exact HT.out.below (Below.drew HB1.out))).mono ?_; rintro e w2 ⟨rfl, hb⟩; have hb' : Below w1.heap.size w1 w2 := ⟨hb.os, hb.tape, hb.output, hb.size, hb.block⟩; have HB2 := Lib.hid (bl_trans HB1.out hb'); have bS2 := Lib.hid (bS1.out.below hb' bS1.out.lt); have hS2 := Blk.two bS2.out; clear hb hb')
        | (go_at_call_of 15 (Value.int IntKind.i64 (b : Int)); refine (HI2.out _ (by first | exact HT.out.below HB2.out | exact HT.out.below (Below.drew HB2.out))).mono ?_; rintro e w3 ⟨rfl, hb⟩; have hb' : Below w2.heap.size w2 w3 := ⟨hb.os, hb.tape, hb.output, hb.size, hb.block⟩; have HB3 := Lib.hid (bl_trans HB2.out hb'); have bS3 := Lib.hid (bS2.out.below hb' bS2.out.lt); have hS3 := Blk.two bS3.out; clear hb hb')))
    go_wp2
    go_ret
    exact ⟨congrArg Ending.returned (congrArg Value.string (over_bytes x y)), by repeat (first | with_reducible exact HB3.out | with_reducible refine Below.drew ?_ | with_reducible refine bl_drewN ?_ _)⟩

set_option maxRecDepth 100000 in
set_option maxHeartbeats 1000000 in
theorem sFmt_is (w : World) (n d : Int) (l : List UInt8) (h : fmtS n d = l) :
    Calls Tryd.prog 8 #[.agg #[.int .i64 n, .int .i64 d]] w (StrRes l w) := by
  cases hv : shB n d
  · obtain rfl : l = [] := by rw [← h]; unfold fmtS; rw [hv]; rfl
    have HV := Lib.hid hv
    clear h hv
    go_enter Tryd.func8, Tryd.ntmps8
    go_wp2_with fail
    refine (sShare_is _ n d false HV.out).mono ?_
    rintro e w1 ⟨rfl, hb⟩
    have HB := Lib.hid (bl_trans (bl_alloc (Below.refl _ w) _) hb)
    clear hb
    go_wp2
    go_ret
    exact ⟨rfl, HB.out⟩
  obtain ⟨a, b, rfl, rfl, hA⟩ := sh_of hv
  have HV := Lib.hid hv
  have hl : l = txtS a b := by rw [← h]; unfold fmtS; rw [hv]; rfl
  obtain ⟨a0, a1, a2, _⟩ := hA
  have l1 := dig_len a1
  have l2 := dig_len a2
  have HI1 := Lib.hid (fun (W : World) => l11Dec_any W a (by omega))
  have HI2 := Lib.hid (fun (W : World) => l11Dec_any W b (by omega))
  by_cases hb1 : b = 1
  · obtain rfl : l = Lib.decDigits a := by rw [hl]; unfold txtS; rw [if_pos hb1]
    have hb2 : ((b : Int) == 1) = true := by rw [beq_iff_eq]; omega
    clear h hv hl hb1
    go_enter Tryd.func8, Tryd.ntmps8
    go_wp2_with fail
    refine (sShare_is _ a b true HV.out).mono ?_
    rintro e w1 ⟨rfl, hb⟩
    have HB := Lib.hid (bl_trans (bl_alloc (Below.refl _ w) _) hb)
    have bS := Lib.hid ((Blk.new w 24 #[.int .i64 (a : Int), .int .i64 (b : Int)]).below hb (by simp))
    have cS := bS.out.cell
    clear hb
    go_wp2_with fail
    refine (HI1.out _).mono ?_
    rintro e w2 ⟨rfl, hb⟩
    have HB2 := Lib.hid (bl_trans HB.out hb)
    clear hb
    go_wp2
    go_ret
    exact ⟨rfl, HB2.out⟩
  · obtain rfl : l = Lib.decDigits a ++ 47 :: Lib.decDigits b := by rw [hl]; unfold txtS; rw [if_neg hb1]
    have hb2 : ((b : Int) == 1) = false := by rw [beq_eq_false_iff_ne]; omega
    clear h hv hl hb1
    generalize Lib.decDigits a = x at *
    generalize Lib.decDigits b = y at *
    have k1 : ¬ 9223372036854775807 < x.length + 1 := by omega
    have k2 : ¬ 9223372036854775807 < x.length + 1 + y.length := by omega
    go_enter Tryd.func8, Tryd.ntmps8
    go_wp2_with fail
    refine (sShare_is _ a b true HV.out).mono ?_
    rintro e w1 ⟨rfl, hb⟩
    have HB1 := Lib.hid (bl_trans (bl_alloc (Below.refl _ w) _) hb)
    have bS1 := Lib.hid ((Blk.new w 24 #[.int .i64 (a : Int), .int .i64 (b : Int)]).below hb (by simp))
    have hS1 := Blk.two bS1.out
    have cS := bS1.out.cell
    clear hb
    go_wp2_with fail
    go_region_held3 (fun W => W.cell? ⟨w.heap.size, 0, none⟩ = some (.int .i64 (a : Int)) ∧ W.cell? ⟨w.heap.size, 1, none⟩ = some (.int .i64 (b : Int))) (first | exact hS1 | exact hS2 | exact hS3)
      ((first
        | (go_at_call_of 16 (Value.int IntKind.i64 (a : Int)); refine (HI1.out _).mono ?_; rintro e w2 ⟨rfl, hb⟩; have hb' : Below w1.heap.size w1 w2 := ⟨hb.os, hb.tape, hb.output, hb.size, hb.block⟩; have HB2 := Lib.hid (bl_trans HB1.out hb'); have bS2 := Lib.hid (bS1.out.below hb' bS1.out.lt); have hS2 := Blk.two bS2.out; clear hb hb')
        | (go_at_call_of 16 (Value.int IntKind.i64 (b : Int)); refine (HI2.out _).mono ?_; rintro e w3 ⟨rfl, hb⟩; have hb' : Below w2.heap.size w2 w3 := ⟨hb.os, hb.tape, hb.output, hb.size, hb.block⟩; have HB3 := Lib.hid (bl_trans HB2.out hb'); have bS3 := Lib.hid (bS2.out.below hb' bS2.out.lt); have hS3 := Blk.two bS3.out; clear hb hb')))
    go_wp2
    go_ret
    exact ⟨congrArg Ending.returned (congrArg Value.string (over_bytes x y)), by repeat (first | with_reducible exact HB3.out | with_reducible refine Below.drew ?_ | with_reducible refine bl_drewN ?_ _)⟩

end Go.Proofs.YtbaecbibkmdbiacDoor
