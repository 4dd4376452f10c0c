/- The walks of the laws on the text of a share. -/
import Derived.Test.YtbaecbibkmdbiacDoorFmtS
import Derived.Test.YtbaecbibkmdbiacDoorDrawSh
import Derived.RegionTactic
import Derived.ChangeAlike
import Derived.Deep.RegionWith
import Derived.Deep.RegionHeld3
namespace Go.Proofs.YtbaecbibkmdbiacDoor
open Go.RowKit
set_option linter.unusedVariables false

def DrewS (w : World) (e : Ending) (w' : World) : Prop :=
  ∃ x y : Int, e = .returned (.agg #[.int .i64 x, .int .i64 y]) ∧ smallS x y ∧ Below w.heap.size w w'

set_option maxHeartbeats 1000000 in
theorem dDrawFormatShare_any (w : World) (A : Option Addr) (n c : Nat) (f : Nat → Int) (h : Code w w.heap.size A n c f) :
    Calls Tryd.prog 6 #[.slice A n c] w (DrewS w) := by
  have H := Lib.hid h
  clear h
  go_enter Tryd.func6, Tryd.ntmps6
  go_wp2_with fail
  refine (open_any _ A n c f (H.out.alloc _)).mono ?_
  rintro e w1 ⟨rfl, m, hr, hb⟩
  have HB1 := Lib.hid (show Below w.heap.size w w1 from bl_trans (by repeat (first | exact Below.refl w.heap.size w | refine bl_alloc ?_ _)) hb)
  have hs1 := hb.size
  simp only [World.size_alloc] at hr hs1
  have hgl := hr.lt
  have HR1 := Lib.hid hr
  have bA1 := Lib.hid (show Blk w1 w.heap.size 24 #[.int .i64 0, .int .i64 0] from Blk.below (Blk.new w 24 _) hb (by simp))
  clear hr hb H
  go_wp2_with fail
  refine (shDraw_any _ _ _ A m c f 0 HR1.out (by omega)).mono ?_
  rintro e w2 ⟨x, y, p2, rfl, hsm2, hp2, hr, hg⟩
  have HR2 := Lib.hid hr
  have HS2 := Lib.hid hsm2
  have HB2 := Lib.hid (below_of_gb HB1.out hg HB1.out.size (by omega))
  have hs2 := hg.size
  have bA2 := Lib.hid (bA1.out.grown hg (by intro e; injection e; omega))
  clear hr hg hsm2 HR1
  have cR := bA2.out.cell
  have fR := bA2.out.frozen
  go_wp2
  refine bodyPost_ret (v := .agg #[.int .i64 x, .int .i64 y]) (by simp [results, Tryd.results6, go_sem, cR]) rfl ⟨x, y, rfl, HS2.out, (by repeat (first | exact HB2.out | refine bl_drewN ?_ _ | refine Below.drew ?_ | refine bl_alloc ?_ _ | refine bl_set ?_ (by dsimp only; omega) _))⟩


def has47 (l : List UInt8) : Bool := l.any fun b => b == 47
theorem has_snoc (l : List UInt8) (c : UInt8) : has47 (l ++ [c]) = (has47 l || ((c.toNat : Int) == 47)) := by
  unfold has47
  rw [List.any_append]
  have : (c == 47) = ((c.toNat : Int) == 47) := by
    rw [Bool.eq_iff_iff, beq_iff_eq, beq_iff_eq, ← UInt8.toNat_inj]
    show c.toNat = 47 ↔ _
    omega
  simp [this]
theorem has_step (l : List UInt8) (k : Nat) (h : k < l.length) : has47 (l.take (k + 1)) = (has47 (l.take k) || ((l[k].toNat : Int) == 47)) := by
  rw [List.take_succ_eq_append_getElem h, has_snoc]
theorem dig_bytes (m : Nat) : ∀ b ∈ Lib.decDigits m, b ≠ 47 := by
  induction m using Nat.strongRecOn with
  | ind m ih =>
    intro b hb
    by_cases h : m < 10
    · rw [Lib.decDigits, dif_pos h] at hb
      obtain rfl : b = _ := List.mem_singleton.1 hb
      intro e
      have := congrArg UInt8.toNat e
      revert this
      rcases (by omega : m = 0 ∨ m = 1 ∨ m = 2 ∨ m = 3 ∨ m = 4 ∨ m = 5 ∨ m = 6 ∨ m = 7 ∨ m = 8 ∨ m = 9) with rfl | rfl | rfl | rfl | rfl | rfl | rfl | rfl | rfl | rfl <;> decide
    · rw [dec_step h] at hb
      rcases List.mem_append.1 hb with hb | hb
      · exact ih _ (by omega) b hb
      · obtain rfl : b = _ := List.mem_singleton.1 hb
        have h10 : m % 10 < 10 := Nat.mod_lt _ (by omega)
        generalize m % 10 = r at *
        rcases (by omega : r = 0 ∨ r = 1 ∨ r = 2 ∨ r = 3 ∨ r = 4 ∨ r = 5 ∨ r = 6 ∨ r = 7 ∨ r = 8 ∨ r = 9) with rfl | rfl | rfl | rfl | rfl | rfl | rfl | rfl | rfl | rfl <;> decide
theorem dig_has (m : Nat) : has47 (Lib.decDigits m) = false := by
  unfold has47
  rw [List.any_eq_false]
  intro b hb
  simpa using dig_bytes m b hb
theorem dig_ne (m : Nat) : Lib.decDigits m ≠ [] := by
  by_cases h : m < 10
  · rw [Lib.decDigits, dif_pos h]; simp
  · rw [dec_step h]; simp
theorem txt_ne (p q : Nat) : txtS p q ≠ [] := by
  unfold txtS
  split
  · exact dig_ne p
  · simp
theorem txt_has (p q : Nat) (h : 1 ≤ q) : has47 (txtS p q) = decide (1 < (q : Int)) := by
  unfold txtS
  split
  · rw [dig_has]; symm; rw [decide_eq_false_iff_not]; omega
  · rename_i h1
    have : has47 (Lib.decDigits p ++ 47 :: Lib.decDigits q) = true := by unfold has47; simp
    rw [this]; symm; rw [decide_eq_true_iff]; omega
theorem txt_len {p q : Nat} (h1 : p ≤ 1000000000) (h2 : q ≤ 1000000000) : (txtS p q).length ≤ 21 := by
  unfold txtS
  have := dig_len h1
  have := dig_len h2
  split
  · omega
  · simp; omega
theorem fmt_no {n d : Int} (h : shB n d = false) : fmtS n d = [] := by unfold fmtS; rw [h]; rfl
theorem fmt_sh {p q : Nat} (h : Sh p q) : fmtS p q = txtS p q := by unfold fmtS; rw [of_sh h]; rfl

set_option maxRecDepth 100000 in
set_option maxHeartbeats 2000000 in
theorem fnFormatShare_walk (w : World) (A : Option Addr) (n c : Nat) (f : Nat → Int) (h : Code w w.heap.size A n c f) (ht : TG w) :
    Calls Tryd.prog 3 #[.slice A n c] w fun e w' => e = .returned (.bool true) ∧ Below w.heap.size w w' := by
  have H := Lib.hid h
  have HT := Lib.hid ht
  skip
  have hle := h.le
  have hmax := h.max
  unfold maxLen at hmax
  clear h ht 
  by_cases hn : 1048576 < n
  · go_enter Tryd.func3, Tryd.ntmps3
    go_wp2
    go_ret
    exact ⟨rfl, Below.refl _ _⟩
  go_enter Tryd.func3, Tryd.ntmps3
  go_wp2_with fail
  refine (dDrawFormatShare_any _ A n c f H.out).mono ?_
  rintro e w1 ⟨x, y, rfl, hsm, hb⟩
  have HB1 := Lib.hid hb
  clear hb H
  cases hv : shB x y
  ·
    have HM := Lib.hid (fmt_no hv)
    have HV := Lib.hid hv
    clear hv
    go_wp2_with fail
    (try (go_quiet (fail); go_wp2_with fail))
    refine (iFmt_is _ x y [] HM.out (TG.below HT.out (by repeat (first | with_reducible exact HB1.out | refine bl_drewN ?_ _ | refine Below.drew ?_ | refine bl_alloc ?_ _)))).mono ?_
    rintro e w2 ⟨rfl, hb⟩
    have hs2 := hb.size
    have HB2 := Lib.hid (show Below w.heap.size w w2 from bl_trans (by repeat (first | with_reducible exact HB1.out | with_reducible refine bl_drewN ?_ _ | with_reducible refine Below.drew ?_ | with_reducible refine bl_alloc ?_ _)) hb)
    have bs2 := Lib.hid (show Blk w2 (w1.heap.size) 24 #[.int .i64 x, .int .i64 y] from Blk.below (by have hh := Blk.new w1 24 #[.int .i64 x, .int .i64 y]; (try simp only [World.size_alloc] at hh); repeat (first | exact hh | with_reducible refine Blk.drewN ?_ _ | with_reducible refine Blk.drew ?_ | with_reducible refine Blk.alloc ?_ _)) hb (by first | omega | (simp; done) | (simp; omega)))
    clear hb HB1
    have cs := bs2.out.cell
    have hS2 := (Blk.two (show Blk w2 (w1.heap.size) 24 #[.int .i64 x, .int .i64 y] from by repeat (first | with_reducible exact bs2.out | with_reducible refine Blk.alloc ?_ _)))
    go_wp2_with fail
    go_region_held3 (fun W => (W.cell? ⟨w1.heap.size, 0, none⟩ = some (.int .i64 x) ∧ W.cell? ⟨w1.heap.size, 1, none⟩ = some (.int .i64 y))) (first | exact hS2 | exact hS3 | exact hS4 | exact hS5 | exact hS6)
      ((first
        | (have uu := HB2; clear uu; go_at_call 8; refine (sFmt_is _ x y [] HM.out).mono ?_; rintro e w3 ⟨rfl, hb⟩; have hs3 := hb.size; have HB3 := Lib.hid (show Below w.heap.size w w3 from bl_trans (by repeat (first | with_reducible exact HB2.out | with_reducible refine bl_drewN ?_ _ | with_reducible refine Below.drew ?_ | with_reducible refine bl_alloc ?_ _)) hb); have bs3 := Lib.hid (show Blk w3 (w1.heap.size) 24 #[.int .i64 x, .int .i64 y] from Blk.below (by repeat (first | with_reducible exact bs2.out | with_reducible refine Blk.drewN ?_ _ | with_reducible refine Blk.drew ?_ | with_reducible refine Blk.alloc ?_ _)) hb (by have := bs2.out.lt; first | exact this | omega | (simp; omega))); have cs := bs3.out.cell; have hS3 := Blk.two bs3.out; clear hb HB2)
        | (have uu := HB3; clear uu; go_at_call 9; refine (iShare_is _ x y false HV.out).mono ?_; rintro e w4 ⟨rfl, hb⟩; have hs4 := hb.size; have HB4 := Lib.hid (show Below w.heap.size w w4 from bl_trans (by repeat (first | with_reducible exact HB3.out | with_reducible refine bl_drewN ?_ _ | with_reducible refine Below.drew ?_ | with_reducible refine bl_alloc ?_ _)) hb); have bs4 := Lib.hid (show Blk w4 (w1.heap.size) 24 #[.int .i64 x, .int .i64 y] from Blk.below (by repeat (first | with_reducible exact bs3.out | with_reducible refine Blk.drewN ?_ _ | with_reducible refine Blk.drew ?_ | with_reducible refine Blk.alloc ?_ _)) hb (by have := bs3.out.lt; first | exact this | omega | (simp; omega))); have cs := bs4.out.cell; have hS4 := Blk.two bs4.out; clear hb HB3)
        | (have uu := HB4; clear uu; go_at_call 9; refine (iShare_is _ x y false HV.out).mono ?_; rintro e w5 ⟨rfl, hb⟩; have hs5 := hb.size; have HB5 := Lib.hid (show Below w.heap.size w w5 from bl_trans (by repeat (first | with_reducible exact HB4.out | with_reducible refine bl_drewN ?_ _ | with_reducible refine Below.drew ?_ | with_reducible refine bl_alloc ?_ _)) hb); have bs5 := Lib.hid (show Blk w5 (w1.heap.size) 24 #[.int .i64 x, .int .i64 y] from Blk.below (by repeat (first | with_reducible exact bs4.out | with_reducible refine Blk.drewN ?_ _ | with_reducible refine Blk.drew ?_ | with_reducible refine Blk.alloc ?_ _)) hb (by have := bs4.out.lt; first | exact this | omega | (simp; omega))); have cs := bs5.out.cell; have hS5 := Blk.two bs5.out; clear hb HB4)
        | (have uu := HB5; clear uu; go_at_call 10; refine (sShare_is _ x y false HV.out).mono ?_; rintro e w6 ⟨rfl, hb⟩; have hs6 := hb.size; have HB6 := Lib.hid (show Below w.heap.size w w6 from bl_trans (by repeat (first | with_reducible exact HB5.out | with_reducible refine bl_drewN ?_ _ | with_reducible refine Below.drew ?_ | with_reducible refine bl_alloc ?_ _)) hb); have bs6 := Lib.hid (show Blk w6 (w1.heap.size) 24 #[.int .i64 x, .int .i64 y] from Blk.below (by repeat (first | with_reducible exact bs5.out | with_reducible refine Blk.drewN ?_ _ | with_reducible refine Blk.drew ?_ | with_reducible refine Blk.alloc ?_ _)) hb (by have := bs5.out.lt; first | exact this | omega | (simp; omega))); have cs := bs6.out.cell; have hS6 := Blk.two bs6.out; clear hb HB5)))
    have hks6 := bs6.out.lt
    have cs := bs6.out.cell
    go_wp2
    go_loop [5, 6] (fun s i => i = .int .i64 0 ∧ s = .bool false) (fun _ i => 0)
    case atStart => exact ⟨rfl, rfl⟩
    case round =>
      obtain ⟨rfl, rfl⟩ := hrel
      go_wp2
      go_ret
      exact ⟨rfl, by repeat (first | with_reducible exact HB6.out | refine bl_drewN ?_ _ | refine Below.drew ?_ | refine bl_alloc ?_ _)⟩
  ·
    obtain ⟨p, q, rfl, rfl, hS⟩ := sh_of hv
    obtain ⟨l, hl⟩ : ∃ l, txtS p q = l := ⟨_, rfl⟩
    have HM := Lib.hid ((fmt_sh hS).trans hl)
    have HV := Lib.hid hv
    have z : l.isEmpty = false := by have := txt_ne p q; rw [hl] at this; simpa using this
    have HH := Lib.hid (show has47 l = decide (1 < (q : Int)) by rw [← hl]; exact txt_has p q hS.pos)
    have hlen : l.length ≤ 21 := by rw [← hl]; exact txt_len hS.num hS.den
    clear hv hl hS hsm
    go_wp2_with fail
    (try (go_quiet (fail); go_wp2_with fail))
    refine (iFmt_is _ (p : Int) (q : Int) l HM.out (TG.below HT.out (by repeat (first | with_reducible exact HB1.out | refine bl_drewN ?_ _ | refine Below.drew ?_ | refine bl_alloc ?_ _)))).mono ?_
    rintro e w2 ⟨rfl, hb⟩
    have hs2 := hb.size
    have HB2 := Lib.hid (show Below w.heap.size w w2 from bl_trans (by repeat (first | with_reducible exact HB1.out | with_reducible refine bl_drewN ?_ _ | with_reducible refine Below.drew ?_ | with_reducible refine bl_alloc ?_ _)) hb)
    have bs2 := Lib.hid (show Blk w2 (w1.heap.size) 24 #[.int .i64 (p : Int), .int .i64 (q : Int)] from Blk.below (by have hh := Blk.new w1 24 #[.int .i64 (p : Int), .int .i64 (q : Int)]; (try simp only [World.size_alloc] at hh); repeat (first | exact hh | with_reducible refine Blk.drewN ?_ _ | with_reducible refine Blk.drew ?_ | with_reducible refine Blk.alloc ?_ _)) hb (by first | omega | (simp; done) | (simp; omega)))
    clear hb HB1
    have cs := bs2.out.cell
    have hS2 := (Blk.two (show Blk w2 (w1.heap.size) 24 #[.int .i64 (p : Int), .int .i64 (q : Int)] from by repeat (first | with_reducible exact bs2.out | with_reducible refine Blk.alloc ?_ _)))
    go_wp2_with fail
    go_region_held3 (fun W => (W.cell? ⟨w1.heap.size, 0, none⟩ = some (.int .i64 (p : Int)) ∧ W.cell? ⟨w1.heap.size, 1, none⟩ = some (.int .i64 (q : Int)))) (first | exact hS2 | exact hS3 | exact hS4 | exact hS5 | exact hS6)
      ((first
        | (have uu := HB2; clear uu; go_at_call 8; refine (sFmt_is _ (p : Int) (q : Int) l HM.out).mono ?_; rintro e w3 ⟨rfl, hb⟩; have hs3 := hb.size; have HB3 := Lib.hid (show Below w.heap.size w w3 from bl_trans (by repeat (first | with_reducible exact HB2.out | with_reducible refine bl_drewN ?_ _ | with_reducible refine Below.drew ?_ | with_reducible refine bl_alloc ?_ _)) hb); have bs3 := Lib.hid (show Blk w3 (w1.heap.size) 24 #[.int .i64 (p : Int), .int .i64 (q : Int)] from Blk.below (by repeat (first | with_reducible exact bs2.out | with_reducible refine Blk.drewN ?_ _ | with_reducible refine Blk.drew ?_ | with_reducible refine Blk.alloc ?_ _)) hb (by have := bs2.out.lt; first | exact this | omega | (simp; omega))); have cs := bs3.out.cell; have hS3 := Blk.two bs3.out; clear hb HB2)
        | (have uu := HB3; clear uu; go_at_call 9; refine (iShare_is _ (p : Int) (q : Int) true HV.out).mono ?_; rintro e w4 ⟨rfl, hb⟩; have hs4 := hb.size; have HB4 := Lib.hid (show Below w.heap.size w w4 from bl_trans (by repeat (first | with_reducible exact HB3.out | with_reducible refine bl_drewN ?_ _ | with_reducible refine Below.drew ?_ | with_reducible refine bl_alloc ?_ _)) hb); have bs4 := Lib.hid (show Blk w4 (w1.heap.size) 24 #[.int .i64 (p : Int), .int .i64 (q : Int)] from Blk.below (by repeat (first | with_reducible exact bs3.out | with_reducible refine Blk.drewN ?_ _ | with_reducible refine Blk.drew ?_ | with_reducible refine Blk.alloc ?_ _)) hb (by have := bs3.out.lt; first | exact this | omega | (simp; omega))); have cs := bs4.out.cell; have hS4 := Blk.two bs4.out; clear hb HB3)
        | (have uu := HB4; clear uu; go_at_call 9; refine (iShare_is _ (p : Int) (q : Int) true HV.out).mono ?_; rintro e w5 ⟨rfl, hb⟩; have hs5 := hb.size; have HB5 := Lib.hid (show Below w.heap.size w w5 from bl_trans (by repeat (first | with_reducible exact HB4.out | with_reducible refine bl_drewN ?_ _ | with_reducible refine Below.drew ?_ | with_reducible refine bl_alloc ?_ _)) hb); have bs5 := Lib.hid (show Blk w5 (w1.heap.size) 24 #[.int .i64 (p : Int), .int .i64 (q : Int)] from Blk.below (by repeat (first | with_reducible exact bs4.out | with_reducible refine Blk.drewN ?_ _ | with_reducible refine Blk.drew ?_ | with_reducible refine Blk.alloc ?_ _)) hb (by have := bs4.out.lt; first | exact this | omega | (simp; omega))); have cs := bs5.out.cell; have hS5 := Blk.two bs5.out; clear hb HB4)
        | (have uu := HB5; clear uu; go_at_call 10; refine (sShare_is _ (p : Int) (q : Int) true HV.out).mono ?_; rintro e w6 ⟨rfl, hb⟩; have hs6 := hb.size; have HB6 := Lib.hid (show Below w.heap.size w w6 from bl_trans (by repeat (first | with_reducible exact HB5.out | with_reducible refine bl_drewN ?_ _ | with_reducible refine Below.drew ?_ | with_reducible refine bl_alloc ?_ _)) hb); have bs6 := Lib.hid (show Blk w6 (w1.heap.size) 24 #[.int .i64 (p : Int), .int .i64 (q : Int)] from Blk.below (by repeat (first | with_reducible exact bs5.out | with_reducible refine Blk.drewN ?_ _ | with_reducible refine Blk.drew ?_ | with_reducible refine Blk.alloc ?_ _)) hb (by have := bs5.out.lt; first | exact this | omega | (simp; omega))); have cs := bs6.out.cell; have hS6 := Blk.two bs6.out; clear hb HB5)))
    have hks6 := bs6.out.lt
    have cs := bs6.out.cell
    go_wp2
    go_loop [5, 6] (fun s i => ∃ k : Nat, k ≤ l.length ∧ i = .int .i64 k ∧ s = .bool (has47 (l.take k))) (fun _ i => l.length - (intOf i).toNat)
    case atStart => exact ⟨0, Nat.zero_le _, rfl, rfl⟩
    case round =>
      obtain ⟨k, hk, rfl, rfl⟩ := hrel
      by_cases hlt : k < l.length
      · have HS := Lib.hid (has_step l k hlt)
        cases hh : has47 (l.take k)
        · go_wp2
          go_round
          case rel => exact ⟨k + 1, by omega, by go_num, by rw [HS.out, hh]; rfl⟩
          case measure => simp [intOf]; omega
        · go_wp2
          go_round
          case rel => exact ⟨k + 1, by omega, by go_num, by rw [HS.out, hh]; rfl⟩
          case measure => simp [intOf]; omega
      · have HF := Lib.hid (show (has47 (l.take k) == decide (1 < (q : Int))) = true by rw [List.take_of_length_le (by omega), HH.out]; exact beq_self_eq_true _)
        go_wp2
        go_ret
        exact ⟨by rw [HF.out]; rfl, by repeat (first | with_reducible exact HB6.out | refine bl_drewN ?_ _ | refine Below.drew ?_ | refine bl_alloc ?_ _)⟩

end Go.Proofs.YtbaecbibkmdbiacDoor
