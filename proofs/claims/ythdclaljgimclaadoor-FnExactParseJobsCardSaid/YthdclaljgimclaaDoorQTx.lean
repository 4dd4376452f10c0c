/- Contracts of the program's text of a job and of FormatJobs: both return the text, and write nothing that was there. -/
import Derived.Test.YthdclaljgimclaaDoorQNe
import Derived.Test.YthdclaljgimclaaDoorOwS
import Derived.Test.YthdclaljgimclaaDoorShB
import Derived.Lib.LaidTab
import Derived.Laws.Concat
import Derived.Deep.RegionWith
import Derived.Deep.RegionHeld3
namespace Go.Proofs.YthdclaljgimclaaDoor
open Go.RowKit
set_option linter.unusedVariables false

/-- The library's table of powers lies as its text lays it. -/
def TG (w : World) : Prop := Lib.TabIs Tryd.prog w "internal/strconv.uint64pow10" .u64 Lib.pow10Tab
theorem var_kept {P : Program} {W W' : World} {n : String} {cs : Array Value} (h : W.var? P n = some cs) (hb : Below W.heap.size W W') : W'.var? P n = some cs := by
  unfold World.var? at h ⊢
  cases hg : P.globalNamed n with
  | none => simp [hg] at h
  | some g =>
    simp only [hg, Option.bind_some] at h ⊢
    have hlt : g < W.heap.size := by
      rcases Nat.lt_or_ge g W.heap.size with h' | h'
      · exact h'
      · simp [Array.getElem?_eq_none h'] at h
    rw [hb.block g hlt]
    exact h
theorem TG.below {w w' : World} (h : TG w) (hb : Below w.heap.size w w') : TG w' := var_kept h hb
theorem bl_grow (w : World) (k : Nat) (os : Array Obj) : Below w.heap.size w (Go.Sort.grow (w.drewN k) os) :=
  ⟨rfl, rfl, rfl, by show _ ≤ (w.heap ++ os).size; simp, fun i hi => by
    show (w.heap ++ os)[i]? = w.heap[i]?
    exact Array.getElem?_append_left hi⟩
theorem itoa_tab (w : World) (m : Nat) (hm : m ≤ 1000000000) (ht : TG w) :
    Calls Tryd.prog 56 #[.int .i64 m] w (StrRes (Lib.decDigits m) w) := by
  refine (Any.strconv_Itoa Tryd.laysM171 (m : Int) (by omega) (by omega) w ht).mono ?_
  rintro e w' ⟨rfl, k, os, rfl⟩
  refine ⟨?_, bl_grow w k os⟩
  have : Lib.itoa (m : Int) = Lib.decDigits m := by unfold Lib.itoa; rw [if_neg (by omega)]; simp
  rw [this]
theorem dig_len {m : Nat} (h : m ≤ 1000000000) : (Lib.decDigits m).length ≤ 10 := by
  rw [Lib.decDigits_length]
  exact digits_le 9 m (by omega)
theorem Blk.three {w : World} {g : Nat} {t : TypeId} {a b c : Value} (h : Blk w g t #[a, b, c]) : w.cell? ⟨g, 0, none⟩ = some a ∧ w.cell? ⟨g, 1, none⟩ = some b ∧ w.cell? ⟨g, 2, none⟩ = some c := ⟨h.cell 0, h.cell 1, h.cell 2⟩

set_option maxRecDepth 100000 in
set_option maxHeartbeats 4000000 in
theorem iText_is (w : World) (x y z : Nat) (hx : x ≤ 200) (hy : y ≤ 200) (hz : z ≤ 200) (ht : TG w) :
    Calls Tryd.prog 30 #[.agg #[.int .i64 (x : Int), .int .i64 (y : Int), .int .i64 (z : Int)]] w (StrRes (Lib.decDigits x ++ 64 :: (Lib.decDigits y ++ 58 :: Lib.decDigits z)) w) := by
  have HT := Lib.hid ht
  clear ht
  have l1 := dig_len (m := x) (by omega)
  have l2 := dig_len (m := y) (by omega)
  have l3 := dig_len (m := z) (by omega)
  have HI1 := Lib.hid (fun (W : World) (h : TG W) => itoa_tab W x (by omega) h)
  have HI2 := Lib.hid (fun (W : World) (h : TG W) => itoa_tab W y (by omega) h)
  have HI3 := Lib.hid (fun (W : World) (h : TG W) => itoa_tab W z (by omega) h)
  generalize Lib.decDigits x = a at *
  generalize Lib.decDigits y = b at *
  generalize Lib.decDigits z = c at *
  have k1 : ¬ 9223372036854775807 < a.length + 1 := by omega
  have k2 : ¬ 9223372036854775807 < a.length + 1 + b.length := by omega
  have k3 : ¬ 9223372036854775807 < a.length + 1 + b.length + 1 := by omega
  have k4 : ¬ 9223372036854775807 < a.length + 1 + b.length + 1 + c.length := by omega
  have bS1 := Lib.hid (Blk.new w 35 #[.int .i64 (x : Int), .int .i64 (y : Int), .int .i64 (z : Int)])
  have HB1 := Lib.hid (bl_alloc (Below.refl w.heap.size w) (.cells #[.int .i64 (x : Int), .int .i64 (y : Int), .int .i64 (z : Int)] 35))
  have hS1 := Blk.three bS1.out
  have cS := bS1.out.cell
  go_enter Tryd.func30, Tryd.ntmps30
  go_wp2_with fail
  generalize w.alloc (.cells #[.int .i64 (x : Int), .int .i64 (y : Int), .int .i64 (z : Int)] 35) = w1 at *
  go_region_held3 (fun W => W.cell? ⟨w.heap.size, 0, none⟩ = some (.int .i64 (x : Int)) ∧ W.cell? ⟨w.heap.size, 1, none⟩ = some (.int .i64 (y : Int)) ∧ W.cell? ⟨w.heap.size, 2, none⟩ = some (.int .i64 (z : Int))) (first | exact hS1 | exact hS2 | exact hS3 | exact hS4)
    ((first
      | (go_at_call_of 56 (Value.int IntKind.i64 (x : Int)); refine (HI1.out _ (by first | exact HT.out.below HB1.out | exact HT.out.below (Below.drew HB1.out))).mono ?_; rintro e w2 ⟨rfl, hb⟩; have hb' : Below w1.heap.size w1 w2 := ⟨hb.os, hb.tape, hb.output, hb.size, hb.block⟩; have HB2 := Lib.hid (bl_trans HB1.out hb'); have bS2 := Lib.hid (bS1.out.below hb' bS1.out.lt); have hS2 := Blk.three bS2.out; clear hb hb')
      | (go_at_call_of 56 (Value.int IntKind.i64 (y : Int)); refine (HI2.out _ (by first | exact HT.out.below HB2.out | exact HT.out.below (Below.drew HB2.out))).mono ?_; rintro e w3 ⟨rfl, hb⟩; have hb' : Below w2.heap.size w2 w3 := ⟨hb.os, hb.tape, hb.output, hb.size, hb.block⟩; have HB3 := Lib.hid (bl_trans HB2.out hb'); have bS3 := Lib.hid (bS2.out.below hb' bS2.out.lt); have hS3 := Blk.three bS3.out; clear hb hb')
      | (go_at_call_of 56 (Value.int IntKind.i64 (z : Int)); refine (HI3.out _ (by first | exact HT.out.below HB3.out | exact HT.out.below (Below.drew HB3.out))).mono ?_; rintro e w4 ⟨rfl, hb⟩; have hb' : Below w3.heap.size w3 w4 := ⟨hb.os, hb.tape, hb.output, hb.size, hb.block⟩; have HB4 := Lib.hid (bl_trans HB3.out hb'); have bS4 := Lib.hid (bS3.out.below hb' bS3.out.lt); have hS4 := Blk.three bS4.out; clear hb hb')))
  go_wp2
  go_ret
  exact ⟨congrArg Ending.returned (congrArg Value.string (ByteArray.ext (by simp [ByteArray.data_append]))), by repeat (first | with_reducible exact HB4.out | with_reducible refine Below.drew ?_ | with_reducible refine bl_drewN ?_ _)⟩
theorem texts_take' {js : List Jb} {k : Nat} {j : Jb} (h : js[k]? = some j) : (js.take (k + 1)).map textJ = (js.take k).map textJ ++ [textJ j] := by
  rw [List.take_add_one, h, Option.toList_some, List.map_append]; rfl
theorem texts_leng {js : List Jb} {k : Nat} (h : k ≤ js.length) : ((js.take k).map textJ).length = k := by rw [List.length_map, List.length_take]; omega

set_option maxRecDepth 100000 in
set_option maxHeartbeats 4000000 in
theorem iFmtJ_is (w : World) (A : Option Addr) (n c : Nat) (js : List Jb) (h : Jbs w w.heap.size A n js) (ht : TG w) :
    Calls Tryd.prog 11 #[.slice A n c] w (StrRes (fmtJ js) w) := by
  obtain ⟨i0, hi, hz0, hz1, hz2⟩ := info_parts info_str
  have J := Lib.hid h
  have HM := Lib.hid h.len
  have HT := Lib.hid ht
  clear h ht
  cases hw : wrsB js
  · have hv : fmtJ js = [] := by unfold fmtJ; rw [hw]; rfl
    rw [hv]
    have HX := Lib.hid (iHave_is w A n c js J.out false hw)
    clear hw hv
    go_enter Tryd.func11, Tryd.ntmps11
    go_wp2_with fail
    refine HX.out.mono ?_
    rintro e w1 ⟨rfl, hb⟩
    go_wp2
    go_ret
    exact ⟨rfl, hb⟩
  have hv : fmtJ js = joinC 32 (js.map textJ) := by unfold fmtJ; rw [hw]; rfl
  rw [hv]
  have HX := Lib.hid (iHave_is w A n c js J.out true hw)
  have HW := Lib.hid (wrsB_iff.1 hw)
  have hn60 : n ≤ 60 := by have := HW.out.1; rw [HM.out] at this; exact this
  have HL := Lib.hid (show (joinC 32 (js.map textJ)).length ≤ 1000 from Nat.le_trans (textJs_len HW.out.2) (by rw [HM.out]; omega))
  clear hw hv
  go_enter Tryd.func11, Tryd.ntmps11
  go_wp2_with fail
  refine HX.out.mono ?_
  rintro e w1 ⟨rfl, hb⟩
  have HB1 := Lib.hid hb
  have hsz1 : w.heap.size ≤ w1.heap.size := hb.size
  clear hb HX
  go_wp2_with (at_make; refine wpList_make_own _ rfl _ _ 49 rfl w.heap.size 9 i0 _ 1 Tryd.underlying49 hi hz0 hz1 .i64 .i64 _ n rfl rfl rfl (by rw [hz2]; omega) (by unfold maxLen; omega) hsz1 ?_; intro w2 hown0 hgrow0)
  have HO0 := Lib.hid (show OwnS w2 w.heap.size _ [] from hown0)
  have HB2 := Lib.hid (HB1.out.grown hgrow0 hsz1 (fun k e => by cases e))
  clear hown0 hgrow0
  go_loopw [3, 14] (fun v i wr => ∃ k : Nat, k ≤ n ∧ i = .int .i64 k ∧ OwnS wr w.heap.size v ((js.take k).map textJ) ∧ Below w.heap.size w wr) (fun _ i _ => n - (intOf i).toNat)
  case atStart => exact ⟨0, Nat.zero_le _, rfl, HO0.out, HB2.out⟩
  case round =>
    obtain ⟨k, hk, rfl, ho, hb⟩ := hrel
    have HO := Lib.hid ho
    have HB := Lib.hid hb
    have hsz : w.heap.size ≤ wr.heap.size := hb.size
    clear ho hb
    by_cases hlt : k < n
    · obtain ⟨j, hj⟩ : ∃ j, js[k]? = some j := ⟨js[k]'(by rw [HM.out]; exact hlt), List.getElem?_eq_getElem _⟩
      obtain ⟨b, o, rfl, hbl, c0, c1, c2⟩ := (J.out.below HB.out).at_ k j hj
      have hkl : k < js.length := by rw [HM.out]; exact hlt
      have HTT := Lib.hid (texts_take' hj)
      obtain ⟨⟨p1, p2⟩, ⟨p3, p4⟩, p5, p6⟩ := wr_nums (HW.out.2 j (List.mem_of_getElem? hj))
      obtain ⟨ta, tm, ne⟩ := j
      dsimp only at c0 c1 c2 p1 p2 p3 p4 p5 p6
      obtain ⟨x, rfl⟩ := Int.eq_ofNat_of_zero_le p1
      obtain ⟨y, rfl⟩ := Int.eq_ofNat_of_zero_le p3
      obtain ⟨z, rfl⟩ := Int.eq_ofNat_of_zero_le p5
      have HT' : Hid ((js.take (k + 1)).map textJ = (js.take k).map textJ ++ [Lib.decDigits x ++ 64 :: (Lib.decDigits y ++ 58 :: Lib.decDigits z)]) := by
        show _ = _
        rw [HTT.out]
        rfl
      have HI := Lib.hid (fun (W : World) (h : TG W) => iText_is W x y z (by omega) (by omega) (by omega) h)
      generalize Lib.decDigits x ++ 64 :: (Lib.decDigits y ++ 58 :: Lib.decDigits z) = tx at *
      clear hj HTT p1 p2 p3 p4 p5 p6
      have hlen : ((js.take k).map textJ).length ≤ 60 := by rw [texts_leng (by omega)]; omega
      have b1 : ((js.take k).map textJ).length + 1 ≤ maxLen := by unfold maxLen; omega
      have b2 : (((js.take k).map textJ).length + 1) * 16 ≤ 140737488355328 := by omega
      have cJ := (Blk.new wr 35 #[.int .i64 (x : Int), .int .i64 (y : Int), .int .i64 (z : Int)]).cell
      go_wp2_with fail
      refine (HI.out _ (HT.out.below (bl_alloc HB.out _))).mono ?_
      rintro e wa ⟨rfl, ha⟩
      have sa : w.heap.size ≤ wa.heap.size := by have := ha.size; simp at this; omega
      have HOa := Lib.hid (show OwnS wa w.heap.size _ _ from own_s (World.ownsRow.alloc HO.out _) ha)
      have HBa := Lib.hid (bl_trans (bl_alloc HB.out _) ha)
      clear ha
      go_wp2_with (at_builtin; refine wpList_append_own _ rfl (.tmp 18) (.tmp 21) 49 rfl w.heap.size 9 i0 _ 1 16 Tryd.underlying49 hi hz0 hz1 hz2 rfl (by decide) _ ((js.take k).map textJ).length (((js.take k).map textJ).map fun x => (str x : Value)) rfl (World.ownsRow.alloc HOa.out _) ⟨wa.heap.size, 0, none⟩ 1 1 [str tx] rfl rfl (by have hx := cell_one_new wa (str tx) 9; simpa using hx) (by intro u hu; simp at hu; subst hu; rfl) b1 b2 (by simp; omega) ?_; intro v' w4 hown' hgrow _)
      have HO4 := Lib.hid (OwnS.snoc hown')
      have HB4 := Lib.hid ((bl_alloc HBa.out _).grown hgrow (by simp; omega) (fun k e => (World.ownsRow.lt HOa.out k e).1))
      clear hown' hgrow hlen b1 b2
      go_wp2
      go_roundw
      case rel => exact ⟨k + 1, by omega, by go_num, by rw [HT'.out]; exact HO4.out, HB4.out⟩
      case measure => simp [intOf]; omega
    · obtain rfl : k = n := by omega
      have hall : js.take k = js := List.take_of_length_le (by rw [HM.out]; omega)
      rw [hall] at HO
      go_wp2_with fail
      refine (joinX_any _ w.heap.size _ (js.map textJ) 32 HO.out HL.out (by rw [List.length_map, HM.out]; omega)).mono ?_
      rintro e wa ⟨rfl, ha⟩
      have HBa := Lib.hid (bl_trans HB.out ha)
      clear ha
      go_wp2
      go_ret
      exact ⟨rfl, HBa.out⟩

end Go.Proofs.YthdclaljgimclaaDoor
