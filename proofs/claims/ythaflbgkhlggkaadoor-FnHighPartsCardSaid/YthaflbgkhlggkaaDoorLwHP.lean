/- The walks of the laws on shares of tasks. -/
import Derived.Test.YthaflbgkhlggkaaDoorM5
import Derived.Test.YthaflbgkhlggkaaDoorM3
import Derived.Test.YthaflbgkhlggkaaDoorM1
import Derived.Deep.RegionWith
import Derived.Deep.RegionHeld3
namespace Go.Proofs.YthaflbgkhlggkaaDoor
open Go.RowKit
set_option linter.unusedVariables false

set_option maxHeartbeats 20000000 in
theorem fnHighParts_walk (w : World) (A : Option Addr) (n c : Nat) (f : Nat → Int) (h : Code w w.heap.size A n c f) (e0 : Addr) (he : EG w e0) :
    Calls Tryd.prog 6 #[.slice A n c] w fun e w' => e = .returned (.bool true) ∧ Below w.heap.size w w' := by
  have H := Lib.hid h
  have HE := Lib.hid he
  have hle := h.le
  have hmax := h.max
  unfold maxLen at hmax
  clear h he
  by_cases hn : 1048576 < n
  · go_enter Tryd.func6, Tryd.ntmps6
    go_wp2
    go_ret
    exact ⟨rfl, Below.refl _ _⟩
  go_enter Tryd.func6, Tryd.ntmps6
  go_wp2_with fail
  refine (dDrawHighShare_any _ A n c f H.out).mono ?_
  rintro e w1 ⟨At, ct, ts, rfl, hl, _, ho, hb⟩
  have HB1 := Lib.hid hb
  have HO := Lib.hid ho
  have HTt := Lib.hid ho.reads.2
  clear hb H ho
  have HDt1 := Lib.hid (Below.refl w1.heap.size w1)
  cases hs : setB ts
  · have HP := Lib.hid (highOf_bad hs)
    go_wp2_with fail
    (try (go_quiet (fail); go_wp2_with fail))
    refine (iHigh_is _ At _ ct ts ((HTt.out.below (by repeat (first | with_reducible exact HDt1.out | with_reducible refine Below.drew ?_ | with_reducible refine bl_drewN ?_ _ | with_reducible refine bl_alloc ?_ _) : Below w1.heap.size w1 _)).more (Below.size (by repeat (first | with_reducible exact HDt1.out | with_reducible refine Below.drew ?_ | with_reducible refine bl_drewN ?_ _ | with_reducible refine bl_alloc ?_ _) : Below w1.heap.size w1 _))) (by omega) e0 (by repeat (first | exact HE.out.below HB1.out | refine EG.drewN ?_ _ | refine EG.drew ?_ | refine EG.alloc ?_ _)) 0 0 HP.out).mono ?_
    rintro e w2 ⟨rfl, hb⟩
    have hs2 := hb.size
    have HB2 := Lib.hid (show Below w.heap.size w w2 from bl_trans (by repeat (first | with_reducible exact HB1.out | with_reducible refine bl_drewN ?_ _ | with_reducible refine Below.drew ?_ | with_reducible refine bl_alloc ?_ _)) hb)
    have HDt2 := Lib.hid (show Below w1.heap.size w1 w2 from bl_trans (by repeat (first | with_reducible exact HDt1.out | with_reducible refine Below.drew ?_ | with_reducible refine bl_drewN ?_ _ | with_reducible refine bl_alloc ?_ _)) hb)
    clear hb HB1 HDt1
    have hS2 := (Blk.two (show Blk (w2.alloc (.cells #[.int .i64 0, .int .i64 0] 27)) (w2.heap.size) 27 #[.int .i64 0, .int .i64 0] from by have hh := Blk.new w2 27 #[.int .i64 0, .int .i64 0]; (try simp only [World.size_alloc] at hh); repeat (first | exact hh | with_reducible refine Blk.alloc ?_ _)))
    go_wp2_with fail
    go_region_held3 (fun W => (W.cell? ⟨w2.heap.size, 0, none⟩ = some (.int .i64 0) ∧ W.cell? ⟨w2.heap.size, 1, none⟩ = some (.int .i64 0))) (first | exact hS2 | exact hS3 | exact hS4)
      ((first
        | (go_at_call 22; refine (sHigh_is _ At _ ct ts ((HTt.out.below (by repeat (first | with_reducible exact HDt2.out | with_reducible refine Below.drew ?_ | with_reducible refine bl_drewN ?_ _ | with_reducible refine bl_alloc ?_ _) : Below w1.heap.size w1 _)).more (Below.size (by repeat (first | with_reducible exact HDt2.out | with_reducible refine Below.drew ?_ | with_reducible refine bl_drewN ?_ _ | with_reducible refine bl_alloc ?_ _) : Below w1.heap.size w1 _))) (by omega) 0 0 HP.out).mono ?_; rintro e w3 ⟨rfl, hb⟩; have hs3 := hb.size; have HB3 := Lib.hid (show Below w.heap.size w w3 from bl_trans (by repeat (first | with_reducible exact HB2.out | with_reducible refine bl_drewN ?_ _ | with_reducible refine Below.drew ?_ | with_reducible refine bl_alloc ?_ _)) hb); have bs3 := Lib.hid (show Blk w3 (w2.heap.size) 27 #[.int .i64 0, .int .i64 0] from Blk.below (by have hh := Blk.new w2 27 #[.int .i64 0, .int .i64 0]; (try simp only [World.size_alloc] at hh); repeat (first | exact hh | with_reducible refine Blk.drewN ?_ _ | with_reducible refine Blk.drew ?_ | with_reducible refine Blk.alloc ?_ _)) hb (by first | omega | (simp; done) | (simp; omega))); have cs := bs3.out.cell; have HDt3 := Lib.hid (show Below w1.heap.size w1 w3 from bl_trans (by repeat (first | with_reducible exact HDt2.out | with_reducible refine Below.drew ?_ | with_reducible refine bl_drewN ?_ _ | with_reducible refine bl_alloc ?_ _)) hb); have hS3 := Blk.two bs3.out; clear hb)
        | (go_at_call 17; refine (iSetValid_any _ At _ ct ts ((HTt.out.below (by repeat (first | with_reducible exact HDt3.out | with_reducible refine Below.drew ?_ | with_reducible refine bl_drewN ?_ _ | with_reducible refine bl_alloc ?_ _) : Below w1.heap.size w1 _)).more (Below.size (by repeat (first | with_reducible exact HDt3.out | with_reducible refine Below.drew ?_ | with_reducible refine bl_drewN ?_ _ | with_reducible refine bl_alloc ?_ _) : Below w1.heap.size w1 _))) (by omega)).mono ?_; rintro e w4 ⟨rfl, hb⟩; have hs4 := hb.size; have HB4 := Lib.hid (show Below w.heap.size w w4 from bl_trans (by repeat (first | with_reducible exact HB3.out | with_reducible refine bl_drewN ?_ _ | with_reducible refine Below.drew ?_ | with_reducible refine bl_alloc ?_ _)) hb); have bs4 := Lib.hid (show Blk w4 (w2.heap.size) 27 #[.int .i64 0, .int .i64 0] from Blk.below (by repeat (first | with_reducible exact bs3.out | with_reducible refine Blk.drewN ?_ _ | with_reducible refine Blk.drew ?_ | with_reducible refine Blk.alloc ?_ _)) hb (by have := bs3.out.lt; first | exact this | omega | (simp; omega))); have cs := bs4.out.cell; have HDt4 := Lib.hid (show Below w1.heap.size w1 w4 from bl_trans (by repeat (first | with_reducible exact HDt3.out | with_reducible refine Below.drew ?_ | with_reducible refine bl_drewN ?_ _ | with_reducible refine bl_alloc ?_ _)) hb); have hS4 := Blk.two bs4.out; clear hb)))
    have hks4 := bs4.out.lt
    have cs := bs4.out.cell
    have hS4 := (Blk.two (show Blk w4 (w2.heap.size) 27 #[.int .i64 0, .int .i64 0] from by repeat (first | with_reducible exact bs4.out | with_reducible refine Blk.alloc ?_ _)))
    go_wp2_with fail
    go_region_held3 (fun W => (W.cell? ⟨w2.heap.size, 0, none⟩ = some (.int .i64 0) ∧ W.cell? ⟨w2.heap.size, 1, none⟩ = some (.int .i64 0))) (first | exact hS4 | exact hS5)
      ((first
        | (go_at_call 22; refine (sHigh_is _ At _ ct ts ((HTt.out.below (by repeat (first | with_reducible exact HDt4.out | with_reducible refine Below.drew ?_ | with_reducible refine bl_drewN ?_ _ | with_reducible refine bl_alloc ?_ _) : Below w1.heap.size w1 _)).more (Below.size (by repeat (first | with_reducible exact HDt4.out | with_reducible refine Below.drew ?_ | with_reducible refine bl_drewN ?_ _ | with_reducible refine bl_alloc ?_ _) : Below w1.heap.size w1 _))) (by omega) 0 0 HP.out).mono ?_; rintro e w5 ⟨rfl, hb⟩; have hs5 := hb.size; have HB5 := Lib.hid (show Below w.heap.size w w5 from bl_trans (by repeat (first | with_reducible exact HB4.out | with_reducible refine bl_drewN ?_ _ | with_reducible refine Below.drew ?_ | with_reducible refine bl_alloc ?_ _)) hb); have bs5 := Lib.hid (show Blk w5 (w2.heap.size) 27 #[.int .i64 0, .int .i64 0] from Blk.below (by repeat (first | with_reducible exact bs4.out | with_reducible refine Blk.drewN ?_ _ | with_reducible refine Blk.drew ?_ | with_reducible refine Blk.alloc ?_ _)) hb (by have := bs4.out.lt; first | exact this | omega | (simp; omega))); have cs := bs5.out.cell; have HDt5 := Lib.hid (show Below w1.heap.size w1 w5 from bl_trans (by repeat (first | with_reducible exact HDt4.out | with_reducible refine Below.drew ?_ | with_reducible refine bl_drewN ?_ _ | with_reducible refine bl_alloc ?_ _)) hb); have hS5 := Blk.two bs5.out; clear hb)))
    have hks5 := bs5.out.lt
    have cs := bs5.out.cell
    go_wp2
    (try (go_quiet (fail); go_wp2))
    go_ret
    exact ⟨rfl, by repeat (first | with_reducible exact HB5.out | refine bl_drewN ?_ _ | refine Below.drew ?_ | refine bl_alloc ?_ _ | refine bl_set ?_ (by dsimp only; omega) _)⟩
  obtain ⟨p, q, hpq⟩ : ∃ p q, highOf ts = (p, q) := ⟨_, _, rfl⟩
  have hsh := highOf_sh hs
  rw [hpq] at hsh
  have HS := Lib.hid (show Sh p q from hsh.1)
  have pb : p ≤ 16000000 := hsh.2.1
  have qb : q ≤ 3200000 := hsh.2.2
  have hl5 : ts.length ≤ 5 := setB_len hs
  have HV := Lib.hid (of_sh HS.out)
  have HP := Lib.hid hpq
  have HSET := Lib.hid hs
  clear hpq hsh
  go_wp2_with fail
  (try (go_quiet (fail); go_wp2_with fail))
  refine (iHigh_is _ At _ ct ts ((HTt.out.below (by repeat (first | with_reducible exact HDt1.out | with_reducible refine Below.drew ?_ | with_reducible refine bl_drewN ?_ _ | with_reducible refine bl_alloc ?_ _) : Below w1.heap.size w1 _)).more (Below.size (by repeat (first | with_reducible exact HDt1.out | with_reducible refine Below.drew ?_ | with_reducible refine bl_drewN ?_ _ | with_reducible refine bl_alloc ?_ _) : Below w1.heap.size w1 _))) (by omega) e0 (by repeat (first | exact HE.out.below HB1.out | refine EG.drewN ?_ _ | refine EG.drew ?_ | refine EG.alloc ?_ _)) p q HP.out).mono ?_
  rintro e w2 ⟨rfl, hb⟩
  have hs2 := hb.size
  have HB2 := Lib.hid (show Below w.heap.size w w2 from bl_trans (by repeat (first | with_reducible exact HB1.out | with_reducible refine bl_drewN ?_ _ | with_reducible refine Below.drew ?_ | with_reducible refine bl_alloc ?_ _)) hb)
  have HDt2 := Lib.hid (show Below w1.heap.size w1 w2 from bl_trans (by repeat (first | with_reducible exact HDt1.out | with_reducible refine Below.drew ?_ | with_reducible refine bl_drewN ?_ _ | with_reducible refine bl_alloc ?_ _)) hb)
  clear hb HB1 HDt1
  have hS2 := (Blk.two (show Blk (w2.alloc (.cells #[.int .i64 (p : Int), .int .i64 (q : Int)] 27)) (w2.heap.size) 27 #[.int .i64 (p : Int), .int .i64 (q : Int)] from by have hh := Blk.new w2 27 #[.int .i64 (p : Int), .int .i64 (q : Int)]; (try simp only [World.size_alloc] at hh); repeat (first | exact hh | with_reducible refine Blk.alloc ?_ _)))
  go_wp2_with fail
  go_region_held3 (fun W => (W.cell? ⟨w2.heap.size, 0, none⟩ = some (.int .i64 (p : Int)) ∧ W.cell? ⟨w2.heap.size, 1, none⟩ = some (.int .i64 (q : Int)))) (first | exact hS2 | exact hS3 | exact hS4)
    ((first
      | (go_at_call 22; refine (sHigh_is _ At _ ct ts ((HTt.out.below (by repeat (first | with_reducible exact HDt2.out | with_reducible refine Below.drew ?_ | with_reducible refine bl_drewN ?_ _ | with_reducible refine bl_alloc ?_ _) : Below w1.heap.size w1 _)).more (Below.size (by repeat (first | with_reducible exact HDt2.out | with_reducible refine Below.drew ?_ | with_reducible refine bl_drewN ?_ _ | with_reducible refine bl_alloc ?_ _) : Below w1.heap.size w1 _))) (by omega) p q HP.out).mono ?_; rintro e w3 ⟨rfl, hb⟩; have hs3 := hb.size; have HB3 := Lib.hid (show Below w.heap.size w w3 from bl_trans (by repeat (first | with_reducible exact HB2.out | with_reducible refine bl_drewN ?_ _ | with_reducible refine Below.drew ?_ | with_reducible refine bl_alloc ?_ _)) hb); have bs3 := Lib.hid (show Blk w3 (w2.heap.size) 27 #[.int .i64 (p : Int), .int .i64 (q : Int)] from Blk.below (by have hh := Blk.new w2 27 #[.int .i64 (p : Int), .int .i64 (q : Int)]; (try simp only [World.size_alloc] at hh); repeat (first | exact hh | with_reducible refine Blk.drewN ?_ _ | with_reducible refine Blk.drew ?_ | with_reducible refine Blk.alloc ?_ _)) hb (by first | omega | (simp; done) | (simp; omega))); have cs := bs3.out.cell; have HDt3 := Lib.hid (show Below w1.heap.size w1 w3 from bl_trans (by repeat (first | with_reducible exact HDt2.out | with_reducible refine Below.drew ?_ | with_reducible refine bl_drewN ?_ _ | with_reducible refine bl_alloc ?_ _)) hb); have hS3 := Blk.two bs3.out; clear hb)
      | (go_at_call 17; refine (iSetValid_any _ At _ ct ts ((HTt.out.below (by repeat (first | with_reducible exact HDt3.out | with_reducible refine Below.drew ?_ | with_reducible refine bl_drewN ?_ _ | with_reducible refine bl_alloc ?_ _) : Below w1.heap.size w1 _)).more (Below.size (by repeat (first | with_reducible exact HDt3.out | with_reducible refine Below.drew ?_ | with_reducible refine bl_drewN ?_ _ | with_reducible refine bl_alloc ?_ _) : Below w1.heap.size w1 _))) (by omega)).mono ?_; rintro e w4 ⟨rfl, hb⟩; have hs4 := hb.size; have HB4 := Lib.hid (show Below w.heap.size w w4 from bl_trans (by repeat (first | with_reducible exact HB3.out | with_reducible refine bl_drewN ?_ _ | with_reducible refine Below.drew ?_ | with_reducible refine bl_alloc ?_ _)) hb); have bs4 := Lib.hid (show Blk w4 (w2.heap.size) 27 #[.int .i64 (p : Int), .int .i64 (q : Int)] from Blk.below (by repeat (first | with_reducible exact bs3.out | with_reducible refine Blk.drewN ?_ _ | with_reducible refine Blk.drew ?_ | with_reducible refine Blk.alloc ?_ _)) hb (by have := bs3.out.lt; first | exact this | omega | (simp; omega))); have cs := bs4.out.cell; have HDt4 := Lib.hid (show Below w1.heap.size w1 w4 from bl_trans (by repeat (first | with_reducible exact HDt3.out | with_reducible refine Below.drew ?_ | with_reducible refine bl_drewN ?_ _ | with_reducible refine bl_alloc ?_ _)) hb); have hS4 := Blk.two bs4.out; clear hb)))
  have hks4 := bs4.out.lt
  obtain ⟨p1, q1, hpq1⟩ : ∃ p q, highOf (ts.take (ts.length / 2)) = (p, q) := ⟨_, _, rfl⟩
  obtain ⟨p2, q2, hpq2⟩ : ∃ p q, highOf (ts.drop (ts.length / 2)) = (p, q) := ⟨_, _, rfl⟩
  have hs1 : setB (ts.take (ts.length / 2)) = true := by have h := HSET.out; unfold setB at h ⊢; simp at h ⊢; exact ⟨by omega, fun t ht => h.2 t (List.mem_of_mem_take ht)⟩
  have hs2 : setB (ts.drop (ts.length / 2)) = true := by have h := HSET.out; unfold setB at h ⊢; simp at h ⊢; exact ⟨by omega, fun t ht => h.2 t (List.mem_of_mem_drop ht)⟩
  have hsum : addN (p1, q1) (p2, q2) = (p, q) := by
    have := high_parts (ts.length / 2) HSET.out
    rw [HP.out, hpq1, hpq2] at this
    exact this.symm
  have hA := (highOf_sh hs1).1
  have hB := (highOf_sh hs2).1
  rw [hpq1] at hA
  rw [hpq2] at hB
  have hadd := plus_sh hA hB
  have hbb : addB (p1, q1) (p2, q2) = true := by unfold addB; rw [hsum]; simp; exact ⟨HS.out.num, HS.out.den⟩
  have HADD := Lib.hid (show plusS p1 q1 p2 q2 = (p, q) ∧ plusB p1 q1 p2 q2 = true from ⟨by have := hadd.2; rw [this, hbb]; exact hsum, hadd.1.trans hbb⟩)
  have HP1 := Lib.hid hpq1
  have HP2 := Lib.hid hpq2
  clear hpq1 hpq2 hs1 hs2 hsum hA hB hadd hbb hs
  rcases Nat.eq_zero_or_pos ts.length with hl0 | hpos
  · obtain rfl : ts = [] := List.length_eq_zero_iff.1 hl0
    clear hl0 hl hl5
    have HL1 := Lib.hid (fun (W : World) (aa : Option Addr) (nn cc : Nat) (hnn : nn = 0) (hE : EG W e0) => iHigh_is W aa nn cc [] (by rw [hnn]; exact Tks.none_) (by omega) e0 hE p1 q1 (by have h := HP1.out; rw [List.take_nil] at h; exact h))
    have HL2 := Lib.hid (fun (W : World) (aa : Option Addr) (nn cc : Nat) (hnn : nn = 0) (hE : EG W e0) => iHigh_is W aa nn cc [] (by rw [hnn]; exact Tks.none_) (by omega) e0 hE p2 q2 (by have h := HP2.out; rw [List.drop_nil] at h; exact h))
    have HL3 := Lib.hid (fun (W : World) (hE : EG W e0) => iAdd_is W e0 hE p1 q1 p2 q2 p q true HADD.out.1 HADD.out.2)
    have hown := HO.out.2
    rcases hown with ⟨e1, _⟩ | ⟨gg, cap, cur, e1, _⟩
    · injection e1 with e1 e2 e3
      subst e1 e3
      clear HO
      have cs := bs4.out.cell
      have hS4 := (Blk.two (show Blk w4 (w2.heap.size) 27 #[.int .i64 (p : Int), .int .i64 (q : Int)] from by repeat (first | with_reducible exact bs4.out | with_reducible refine Blk.alloc ?_ _)))
      have hks4 := bs4.out.lt
      have hz4 := HB4.out.size
      have hzdt4 := HDt4.out.size
      have hN4 : Blk (w4.alloc (.cells #[.int .i64 0, .int .i64 0] 27)) (w4.heap.size) 27 #[.int .i64 0, .int .i64 0] := by have hh := Blk.new w4 27 #[.int .i64 0, .int .i64 0]; (try simp only [World.size_alloc] at hh); exact hh
      go_wp2_with fail
      go_region_held3 (fun W => (W.cell? ⟨w2.heap.size, 0, none⟩ = some (.int .i64 (p : Int)) ∧ W.cell? ⟨w2.heap.size, 1, none⟩ = some (.int .i64 (q : Int)))) (first | exact hS4 | exact hS5 | exact hS6 | exact hS7 | exact two_alloc1 hS4 _ | exact two_alloc1 hS5 _ | exact two_alloc1 hS6 _ | exact two_alloc1 hS7 _ | exact two_set1 hS7 (by omega) _ _)
        ((first
          | (go_at_call 18; (with_reducible refine (HL1.out _ _ _ _ ?_ ?_).mono ?_); (· (first | rfl | (simp; done) | omega)); (· (repeat (first | exact HE.out.below HB4.out | with_reducible refine EG.drewN ?_ _ | with_reducible refine EG.drew ?_ | with_reducible refine EG.alloc ?_ _))); rintro e w5 ⟨rfl, hb⟩; have hs5 := hb.size; have HB5 := Lib.hid (show Below w.heap.size w w5 from bl_trans (by repeat (first | with_reducible exact HB4.out | with_reducible refine bl_drewN ?_ _ | with_reducible refine Below.drew ?_ | with_reducible refine bl_alloc ?_ _)) hb); have bs5 := Lib.hid (show Blk w5 (w2.heap.size) 27 #[.int .i64 (p : Int), .int .i64 (q : Int)] from Blk.below (by repeat (first | with_reducible exact bs4.out | with_reducible refine Blk.drewN ?_ _ | with_reducible refine Blk.drew ?_ | with_reducible refine Blk.alloc ?_ _)) hb (by have := bs4.out.lt; first | exact this | omega | (simp; omega))); have cs := bs5.out.cell; have HDt5 := Lib.hid (show Below w1.heap.size w1 w5 from bl_trans (by repeat (first | with_reducible exact HDt4.out | with_reducible refine Below.drew ?_ | with_reducible refine bl_drewN ?_ _ | with_reducible refine bl_alloc ?_ _)) hb); have hS5 := Blk.two bs5.out; have hks5 := bs5.out.lt; have hz5 := HB5.out.size; have hzdt5 := HDt5.out.size; (first | (have bC := Lib.hid (show Blk w5 (w4.heap.size) 27 #[.int .i64 0, .int .i64 0] from Blk.below (Blk.drew hN4) hb hN4.lt)) | (have bC := Lib.hid (show Blk w5 (w4.heap.size) 27 #[.int .i64 0, .int .i64 0] from Blk.below hN4 hb hN4.lt)) | (have bC := Lib.hid (Blk.below (Blk.drew bC.out) hb bC.out.lt)) | (have bC := Lib.hid (Blk.below bC.out hb bC.out.lt)) | skip); (first | (have cC := bC.out.cell; have fC := bC.out.frozen) | skip); have hN5 := Blk.new w5 27 #[.int .i64 0, .int .i64 0]; clear hb)
          | (go_at_call 18; (with_reducible refine (HL2.out _ _ _ _ ?_ ?_).mono ?_); (· (first | rfl | (simp; done) | omega)); (· (repeat (first | exact HE.out.below HB5.out | with_reducible refine EG.drewN ?_ _ | with_reducible refine EG.drew ?_ | with_reducible refine EG.alloc ?_ _))); rintro e w6 ⟨rfl, hb⟩; have hs6 := hb.size; have HB6 := Lib.hid (show Below w.heap.size w w6 from bl_trans (by repeat (first | with_reducible exact HB5.out | with_reducible refine bl_drewN ?_ _ | with_reducible refine Below.drew ?_ | with_reducible refine bl_alloc ?_ _)) hb); have bs6 := Lib.hid (show Blk w6 (w2.heap.size) 27 #[.int .i64 (p : Int), .int .i64 (q : Int)] from Blk.below (by repeat (first | with_reducible exact bs5.out | with_reducible refine Blk.drewN ?_ _ | with_reducible refine Blk.drew ?_ | with_reducible refine Blk.alloc ?_ _)) hb (by have := bs5.out.lt; first | exact this | omega | (simp; omega))); have cs := bs6.out.cell; have HDt6 := Lib.hid (show Below w1.heap.size w1 w6 from bl_trans (by repeat (first | with_reducible exact HDt5.out | with_reducible refine Below.drew ?_ | with_reducible refine bl_drewN ?_ _ | with_reducible refine bl_alloc ?_ _)) hb); have hS6 := Blk.two bs6.out; have hks6 := bs6.out.lt; have hz6 := HB6.out.size; have hzdt6 := HDt6.out.size; (first | (have bC := Lib.hid (show Blk w6 (w5.heap.size) 27 #[.int .i64 0, .int .i64 0] from Blk.below (Blk.drew hN5) hb hN5.lt)) | (have bC := Lib.hid (show Blk w6 (w5.heap.size) 27 #[.int .i64 0, .int .i64 0] from Blk.below hN5 hb hN5.lt)) | (have bC := Lib.hid (Blk.below (Blk.drew bC.out) hb bC.out.lt)) | (have bC := Lib.hid (Blk.below bC.out hb bC.out.lt)) | skip); (first | (have cC := bC.out.cell; have fC := bC.out.frozen) | skip); have hN6 := Blk.new w6 27 #[.int .i64 0, .int .i64 0]; clear hb)
          | (go_at_call 24; refine (HL3.out _ (by repeat (first | exact HE.out.below HB6.out | with_reducible refine EG.drewN ?_ _ | with_reducible refine EG.drew ?_ | with_reducible refine EG.alloc ?_ _))).mono ?_; rintro e w7 ⟨rfl, hb⟩; have hs7 := hb.size; have HB7 := Lib.hid (show Below w.heap.size w w7 from bl_trans (by repeat (first | with_reducible exact HB6.out | with_reducible refine bl_drewN ?_ _ | with_reducible refine Below.drew ?_ | with_reducible refine bl_alloc ?_ _)) hb); have bs7 := Lib.hid (show Blk w7 (w2.heap.size) 27 #[.int .i64 (p : Int), .int .i64 (q : Int)] from Blk.below (by repeat (first | with_reducible exact bs6.out | with_reducible refine Blk.drewN ?_ _ | with_reducible refine Blk.drew ?_ | with_reducible refine Blk.alloc ?_ _)) hb (by have := bs6.out.lt; first | exact this | omega | (simp; omega))); have cs := bs7.out.cell; have HDt7 := Lib.hid (show Below w1.heap.size w1 w7 from bl_trans (by repeat (first | with_reducible exact HDt6.out | with_reducible refine Below.drew ?_ | with_reducible refine bl_drewN ?_ _ | with_reducible refine bl_alloc ?_ _)) hb); have hS7 := Blk.two bs7.out; have hks7 := bs7.out.lt; have hz7 := HB7.out.size; have hzdt7 := HDt7.out.size; (first | (have bC := Lib.hid (show Blk w7 (w6.heap.size) 27 #[.int .i64 0, .int .i64 0] from Blk.below (Blk.drew hN6) hb hN6.lt)) | (have bC := Lib.hid (show Blk w7 (w6.heap.size) 27 #[.int .i64 0, .int .i64 0] from Blk.below hN6 hb hN6.lt)) | (have bC := Lib.hid (Blk.below (Blk.drew bC.out) hb bC.out.lt)) | (have bC := Lib.hid (Blk.below bC.out hb bC.out.lt)) | skip); (first | (have cC := bC.out.cell; have fC := bC.out.frozen) | skip); have hN7 := Blk.new w7 27 #[.int .i64 0, .int .i64 0]; clear hb)))
      all_goals first
        | (have bx8 := Lib.hid (show Blk ((w7.setCell ⟨w4.heap.size, 0, none⟩ (.int .i64 (p : Int))).setCell ⟨w4.heap.size, 1, none⟩ (.int .i64 (q : Int))) (w4.heap.size) 27 #[.int .i64 (p : Int), .int .i64 (q : Int)] from (bC.out.set_ 0 _).set_ 1 _)
           have hnes : (w2.heap.size) ≠ w4.heap.size := by omega
           have bs8 := Lib.hid (show Blk ((w7.setCell ⟨w4.heap.size, 0, none⟩ (.int .i64 (p : Int))).setCell ⟨w4.heap.size, 1, none⟩ (.int .i64 (q : Int))) (w2.heap.size) 27 #[.int .i64 (p : Int), .int .i64 (q : Int)] from (bs7.out.far hnes _).far hnes _)
           have HB8 := Lib.hid (show Below w.heap.size w ((w7.setCell ⟨w4.heap.size, 0, none⟩ (.int .i64 (p : Int))).setCell ⟨w4.heap.size, 1, none⟩ (.int .i64 (q : Int))) from bl_set (bl_set HB7.out (by dsimp only; omega) _) (by dsimp only; omega) _)
           have HDt8 := Lib.hid (show Below w1.heap.size w1 ((w7.setCell ⟨w4.heap.size, 0, none⟩ (.int .i64 (p : Int))).setCell ⟨w4.heap.size, 1, none⟩ (.int .i64 (q : Int))) from bl_set (bl_set HDt7.out (by dsimp only; omega) _) (by dsimp only; omega) _)
           clear bs7 HB7 HDt7 cs cC fC bC
           generalize ((w7.setCell ⟨w4.heap.size, 0, none⟩ (.int .i64 (p : Int))).setCell ⟨w4.heap.size, 1, none⟩ (.int .i64 (q : Int))) = w8 at *
           generalize w4.heap.size = ax at *)
        | (have bx8 := Lib.hid (show Blk ((w7.setCell ⟨w5.heap.size, 0, none⟩ (.int .i64 (p : Int))).setCell ⟨w5.heap.size, 1, none⟩ (.int .i64 (q : Int))) (w5.heap.size) 27 #[.int .i64 (p : Int), .int .i64 (q : Int)] from (bC.out.set_ 0 _).set_ 1 _)
           have hnes : (w2.heap.size) ≠ w5.heap.size := by omega
           have bs8 := Lib.hid (show Blk ((w7.setCell ⟨w5.heap.size, 0, none⟩ (.int .i64 (p : Int))).setCell ⟨w5.heap.size, 1, none⟩ (.int .i64 (q : Int))) (w2.heap.size) 27 #[.int .i64 (p : Int), .int .i64 (q : Int)] from (bs7.out.far hnes _).far hnes _)
           have HB8 := Lib.hid (show Below w.heap.size w ((w7.setCell ⟨w5.heap.size, 0, none⟩ (.int .i64 (p : Int))).setCell ⟨w5.heap.size, 1, none⟩ (.int .i64 (q : Int))) from bl_set (bl_set HB7.out (by dsimp only; omega) _) (by dsimp only; omega) _)
           have HDt8 := Lib.hid (show Below w1.heap.size w1 ((w7.setCell ⟨w5.heap.size, 0, none⟩ (.int .i64 (p : Int))).setCell ⟨w5.heap.size, 1, none⟩ (.int .i64 (q : Int))) from bl_set (bl_set HDt7.out (by dsimp only; omega) _) (by dsimp only; omega) _)
           clear bs7 HB7 HDt7 cs cC fC bC
           generalize ((w7.setCell ⟨w5.heap.size, 0, none⟩ (.int .i64 (p : Int))).setCell ⟨w5.heap.size, 1, none⟩ (.int .i64 (q : Int))) = w8 at *
           generalize w5.heap.size = ax at *)
        | (have bx8 := Lib.hid (show Blk ((w7.setCell ⟨w6.heap.size, 0, none⟩ (.int .i64 (p : Int))).setCell ⟨w6.heap.size, 1, none⟩ (.int .i64 (q : Int))) (w6.heap.size) 27 #[.int .i64 (p : Int), .int .i64 (q : Int)] from (bC.out.set_ 0 _).set_ 1 _)
           have hnes : (w2.heap.size) ≠ w6.heap.size := by omega
           have bs8 := Lib.hid (show Blk ((w7.setCell ⟨w6.heap.size, 0, none⟩ (.int .i64 (p : Int))).setCell ⟨w6.heap.size, 1, none⟩ (.int .i64 (q : Int))) (w2.heap.size) 27 #[.int .i64 (p : Int), .int .i64 (q : Int)] from (bs7.out.far hnes _).far hnes _)
           have HB8 := Lib.hid (show Below w.heap.size w ((w7.setCell ⟨w6.heap.size, 0, none⟩ (.int .i64 (p : Int))).setCell ⟨w6.heap.size, 1, none⟩ (.int .i64 (q : Int))) from bl_set (bl_set HB7.out (by dsimp only; omega) _) (by dsimp only; omega) _)
           have HDt8 := Lib.hid (show Below w1.heap.size w1 ((w7.setCell ⟨w6.heap.size, 0, none⟩ (.int .i64 (p : Int))).setCell ⟨w6.heap.size, 1, none⟩ (.int .i64 (q : Int))) from bl_set (bl_set HDt7.out (by dsimp only; omega) _) (by dsimp only; omega) _)
           clear bs7 HB7 HDt7 cs cC fC bC
           generalize ((w7.setCell ⟨w6.heap.size, 0, none⟩ (.int .i64 (p : Int))).setCell ⟨w6.heap.size, 1, none⟩ (.int .i64 (q : Int))) = w8 at *
           generalize w6.heap.size = ax at *)
        | (have bx8 := Lib.hid (show Blk (w7.alloc (.cells #[.int .i64 (p : Int), .int .i64 (q : Int)] 27)) (w7.heap.size) 27 #[.int .i64 (p : Int), .int .i64 (q : Int)] from Blk.new w7 27 _)
           have bs8 := Lib.hid (show Blk (w7.alloc (.cells #[.int .i64 (p : Int), .int .i64 (q : Int)] 27)) (w2.heap.size) 27 #[.int .i64 (p : Int), .int .i64 (q : Int)] from bs7.out.alloc _)
           have HB8 := Lib.hid (show Below w.heap.size w (w7.alloc (.cells #[.int .i64 (p : Int), .int .i64 (q : Int)] 27)) from bl_alloc HB7.out _)
           have HDt8 := Lib.hid (show Below w1.heap.size w1 (w7.alloc (.cells #[.int .i64 (p : Int), .int .i64 (q : Int)] 27)) from bl_alloc HDt7.out _)
           clear bs7 HB7 HDt7 cs
           generalize (w7.alloc (.cells #[.int .i64 (p : Int), .int .i64 (q : Int)] 27)) = w8 at *
           generalize w7.heap.size = ax at *)
      all_goals have hks8 := bs8.out.lt
      all_goals have hkx8 := bx8.out.lt
      all_goals
        (skip
         have cs := bs8.out.cell
         have cx := bx8.out.cell
         go_wp2
         (try (go_quiet (fail); go_wp2))
         go_ret
         exact ⟨rfl, by repeat (first | with_reducible exact HB8.out | refine bl_drewN ?_ _ | refine Below.drew ?_ | refine bl_alloc ?_ _ | refine bl_set ?_ (by dsimp only; omega) _)⟩)
    · injection e1 with e1 e2 e3
      subst e1
      clear HO
      have cs := bs4.out.cell
      have hS4 := (Blk.two (show Blk w4 (w2.heap.size) 27 #[.int .i64 (p : Int), .int .i64 (q : Int)] from by repeat (first | with_reducible exact bs4.out | with_reducible refine Blk.alloc ?_ _)))
      have hks4 := bs4.out.lt
      have hz4 := HB4.out.size
      have hzdt4 := HDt4.out.size
      have hN4 : Blk (w4.alloc (.cells #[.int .i64 0, .int .i64 0] 27)) (w4.heap.size) 27 #[.int .i64 0, .int .i64 0] := by have hh := Blk.new w4 27 #[.int .i64 0, .int .i64 0]; (try simp only [World.size_alloc] at hh); exact hh
      go_wp2_with fail
      go_region_held3 (fun W => (W.cell? ⟨w2.heap.size, 0, none⟩ = some (.int .i64 (p : Int)) ∧ W.cell? ⟨w2.heap.size, 1, none⟩ = some (.int .i64 (q : Int)))) (first | exact hS4 | exact hS5 | exact hS6 | exact hS7 | exact two_alloc1 hS4 _ | exact two_alloc1 hS5 _ | exact two_alloc1 hS6 _ | exact two_alloc1 hS7 _ | exact two_set1 hS7 (by omega) _ _)
        ((first
          | (go_at_call 18; (with_reducible refine (HL1.out _ _ _ _ ?_ ?_).mono ?_); (· (first | rfl | (simp; done) | omega)); (· (repeat (first | exact HE.out.below HB4.out | with_reducible refine EG.drewN ?_ _ | with_reducible refine EG.drew ?_ | with_reducible refine EG.alloc ?_ _))); rintro e w5 ⟨rfl, hb⟩; have hs5 := hb.size; have HB5 := Lib.hid (show Below w.heap.size w w5 from bl_trans (by repeat (first | with_reducible exact HB4.out | with_reducible refine bl_drewN ?_ _ | with_reducible refine Below.drew ?_ | with_reducible refine bl_alloc ?_ _)) hb); have bs5 := Lib.hid (show Blk w5 (w2.heap.size) 27 #[.int .i64 (p : Int), .int .i64 (q : Int)] from Blk.below (by repeat (first | with_reducible exact bs4.out | with_reducible refine Blk.drewN ?_ _ | with_reducible refine Blk.drew ?_ | with_reducible refine Blk.alloc ?_ _)) hb (by have := bs4.out.lt; first | exact this | omega | (simp; omega))); have cs := bs5.out.cell; have HDt5 := Lib.hid (show Below w1.heap.size w1 w5 from bl_trans (by repeat (first | with_reducible exact HDt4.out | with_reducible refine Below.drew ?_ | with_reducible refine bl_drewN ?_ _ | with_reducible refine bl_alloc ?_ _)) hb); have hS5 := Blk.two bs5.out; have hks5 := bs5.out.lt; have hz5 := HB5.out.size; have hzdt5 := HDt5.out.size; (first | (have bC := Lib.hid (show Blk w5 (w4.heap.size) 27 #[.int .i64 0, .int .i64 0] from Blk.below (Blk.drew hN4) hb hN4.lt)) | (have bC := Lib.hid (show Blk w5 (w4.heap.size) 27 #[.int .i64 0, .int .i64 0] from Blk.below hN4 hb hN4.lt)) | (have bC := Lib.hid (Blk.below (Blk.drew bC.out) hb bC.out.lt)) | (have bC := Lib.hid (Blk.below bC.out hb bC.out.lt)) | skip); (first | (have cC := bC.out.cell; have fC := bC.out.frozen) | skip); have hN5 := Blk.new w5 27 #[.int .i64 0, .int .i64 0]; clear hb)
          | (go_at_call 18; (with_reducible refine (HL2.out _ _ _ _ ?_ ?_).mono ?_); (· (first | rfl | (simp; done) | omega)); (· (repeat (first | exact HE.out.below HB5.out | with_reducible refine EG.drewN ?_ _ | with_reducible refine EG.drew ?_ | with_reducible refine EG.alloc ?_ _))); rintro e w6 ⟨rfl, hb⟩; have hs6 := hb.size; have HB6 := Lib.hid (show Below w.heap.size w w6 from bl_trans (by repeat (first | with_reducible exact HB5.out | with_reducible refine bl_drewN ?_ _ | with_reducible refine Below.drew ?_ | with_reducible refine bl_alloc ?_ _)) hb); have bs6 := Lib.hid (show Blk w6 (w2.heap.size) 27 #[.int .i64 (p : Int), .int .i64 (q : Int)] from Blk.below (by repeat (first | with_reducible exact bs5.out | with_reducible refine Blk.drewN ?_ _ | with_reducible refine Blk.drew ?_ | with_reducible refine Blk.alloc ?_ _)) hb (by have := bs5.out.lt; first | exact this | omega | (simp; omega))); have cs := bs6.out.cell; have HDt6 := Lib.hid (show Below w1.heap.size w1 w6 from bl_trans (by repeat (first | with_reducible exact HDt5.out | with_reducible refine Below.drew ?_ | with_reducible refine bl_drewN ?_ _ | with_reducible refine bl_alloc ?_ _)) hb); have hS6 := Blk.two bs6.out; have hks6 := bs6.out.lt; have hz6 := HB6.out.size; have hzdt6 := HDt6.out.size; (first | (have bC := Lib.hid (show Blk w6 (w5.heap.size) 27 #[.int .i64 0, .int .i64 0] from Blk.below (Blk.drew hN5) hb hN5.lt)) | (have bC := Lib.hid (show Blk w6 (w5.heap.size) 27 #[.int .i64 0, .int .i64 0] from Blk.below hN5 hb hN5.lt)) | (have bC := Lib.hid (Blk.below (Blk.drew bC.out) hb bC.out.lt)) | (have bC := Lib.hid (Blk.below bC.out hb bC.out.lt)) | skip); (first | (have cC := bC.out.cell; have fC := bC.out.frozen) | skip); have hN6 := Blk.new w6 27 #[.int .i64 0, .int .i64 0]; clear hb)
          | (go_at_call 24; refine (HL3.out _ (by repeat (first | exact HE.out.below HB6.out | with_reducible refine EG.drewN ?_ _ | with_reducible refine EG.drew ?_ | with_reducible refine EG.alloc ?_ _))).mono ?_; rintro e w7 ⟨rfl, hb⟩; have hs7 := hb.size; have HB7 := Lib.hid (show Below w.heap.size w w7 from bl_trans (by repeat (first | with_reducible exact HB6.out | with_reducible refine bl_drewN ?_ _ | with_reducible refine Below.drew ?_ | with_reducible refine bl_alloc ?_ _)) hb); have bs7 := Lib.hid (show Blk w7 (w2.heap.size) 27 #[.int .i64 (p : Int), .int .i64 (q : Int)] from Blk.below (by repeat (first | with_reducible exact bs6.out | with_reducible refine Blk.drewN ?_ _ | with_reducible refine Blk.drew ?_ | with_reducible refine Blk.alloc ?_ _)) hb (by have := bs6.out.lt; first | exact this | omega | (simp; omega))); have cs := bs7.out.cell; have HDt7 := Lib.hid (show Below w1.heap.size w1 w7 from bl_trans (by repeat (first | with_reducible exact HDt6.out | with_reducible refine Below.drew ?_ | with_reducible refine bl_drewN ?_ _ | with_reducible refine bl_alloc ?_ _)) hb); have hS7 := Blk.two bs7.out; have hks7 := bs7.out.lt; have hz7 := HB7.out.size; have hzdt7 := HDt7.out.size; (first | (have bC := Lib.hid (show Blk w7 (w6.heap.size) 27 #[.int .i64 0, .int .i64 0] from Blk.below (Blk.drew hN6) hb hN6.lt)) | (have bC := Lib.hid (show Blk w7 (w6.heap.size) 27 #[.int .i64 0, .int .i64 0] from Blk.below hN6 hb hN6.lt)) | (have bC := Lib.hid (Blk.below (Blk.drew bC.out) hb bC.out.lt)) | (have bC := Lib.hid (Blk.below bC.out hb bC.out.lt)) | skip); (first | (have cC := bC.out.cell; have fC := bC.out.frozen) | skip); have hN7 := Blk.new w7 27 #[.int .i64 0, .int .i64 0]; clear hb)))
      all_goals first
        | (have bx8 := Lib.hid (show Blk ((w7.setCell ⟨w4.heap.size, 0, none⟩ (.int .i64 (p : Int))).setCell ⟨w4.heap.size, 1, none⟩ (.int .i64 (q : Int))) (w4.heap.size) 27 #[.int .i64 (p : Int), .int .i64 (q : Int)] from (bC.out.set_ 0 _).set_ 1 _)
           have hnes : (w2.heap.size) ≠ w4.heap.size := by omega
           have bs8 := Lib.hid (show Blk ((w7.setCell ⟨w4.heap.size, 0, none⟩ (.int .i64 (p : Int))).setCell ⟨w4.heap.size, 1, none⟩ (.int .i64 (q : Int))) (w2.heap.size) 27 #[.int .i64 (p : Int), .int .i64 (q : Int)] from (bs7.out.far hnes _).far hnes _)
           have HB8 := Lib.hid (show Below w.heap.size w ((w7.setCell ⟨w4.heap.size, 0, none⟩ (.int .i64 (p : Int))).setCell ⟨w4.heap.size, 1, none⟩ (.int .i64 (q : Int))) from bl_set (bl_set HB7.out (by dsimp only; omega) _) (by dsimp only; omega) _)
           have HDt8 := Lib.hid (show Below w1.heap.size w1 ((w7.setCell ⟨w4.heap.size, 0, none⟩ (.int .i64 (p : Int))).setCell ⟨w4.heap.size, 1, none⟩ (.int .i64 (q : Int))) from bl_set (bl_set HDt7.out (by dsimp only; omega) _) (by dsimp only; omega) _)
           clear bs7 HB7 HDt7 cs cC fC bC
           generalize ((w7.setCell ⟨w4.heap.size, 0, none⟩ (.int .i64 (p : Int))).setCell ⟨w4.heap.size, 1, none⟩ (.int .i64 (q : Int))) = w8 at *
           generalize w4.heap.size = ax at *)
        | (have bx8 := Lib.hid (show Blk ((w7.setCell ⟨w5.heap.size, 0, none⟩ (.int .i64 (p : Int))).setCell ⟨w5.heap.size, 1, none⟩ (.int .i64 (q : Int))) (w5.heap.size) 27 #[.int .i64 (p : Int), .int .i64 (q : Int)] from (bC.out.set_ 0 _).set_ 1 _)
           have hnes : (w2.heap.size) ≠ w5.heap.size := by omega
           have bs8 := Lib.hid (show Blk ((w7.setCell ⟨w5.heap.size, 0, none⟩ (.int .i64 (p : Int))).setCell ⟨w5.heap.size, 1, none⟩ (.int .i64 (q : Int))) (w2.heap.size) 27 #[.int .i64 (p : Int), .int .i64 (q : Int)] from (bs7.out.far hnes _).far hnes _)
           have HB8 := Lib.hid (show Below w.heap.size w ((w7.setCell ⟨w5.heap.size, 0, none⟩ (.int .i64 (p : Int))).setCell ⟨w5.heap.size, 1, none⟩ (.int .i64 (q : Int))) from bl_set (bl_set HB7.out (by dsimp only; omega) _) (by dsimp only; omega) _)
           have HDt8 := Lib.hid (show Below w1.heap.size w1 ((w7.setCell ⟨w5.heap.size, 0, none⟩ (.int .i64 (p : Int))).setCell ⟨w5.heap.size, 1, none⟩ (.int .i64 (q : Int))) from bl_set (bl_set HDt7.out (by dsimp only; omega) _) (by dsimp only; omega) _)
           clear bs7 HB7 HDt7 cs cC fC bC
           generalize ((w7.setCell ⟨w5.heap.size, 0, none⟩ (.int .i64 (p : Int))).setCell ⟨w5.heap.size, 1, none⟩ (.int .i64 (q : Int))) = w8 at *
           generalize w5.heap.size = ax at *)
        | (have bx8 := Lib.hid (show Blk ((w7.setCell ⟨w6.heap.size, 0, none⟩ (.int .i64 (p : Int))).setCell ⟨w6.heap.size, 1, none⟩ (.int .i64 (q : Int))) (w6.heap.size) 27 #[.int .i64 (p : Int), .int .i64 (q : Int)] from (bC.out.set_ 0 _).set_ 1 _)
           have hnes : (w2.heap.size) ≠ w6.heap.size := by omega
           have bs8 := Lib.hid (show Blk ((w7.setCell ⟨w6.heap.size, 0, none⟩ (.int .i64 (p : Int))).setCell ⟨w6.heap.size, 1, none⟩ (.int .i64 (q : Int))) (w2.heap.size) 27 #[.int .i64 (p : Int), .int .i64 (q : Int)] from (bs7.out.far hnes _).far hnes _)
           have HB8 := Lib.hid (show Below w.heap.size w ((w7.setCell ⟨w6.heap.size, 0, none⟩ (.int .i64 (p : Int))).setCell ⟨w6.heap.size, 1, none⟩ (.int .i64 (q : Int))) from bl_set (bl_set HB7.out (by dsimp only; omega) _) (by dsimp only; omega) _)
           have HDt8 := Lib.hid (show Below w1.heap.size w1 ((w7.setCell ⟨w6.heap.size, 0, none⟩ (.int .i64 (p : Int))).setCell ⟨w6.heap.size, 1, none⟩ (.int .i64 (q : Int))) from bl_set (bl_set HDt7.out (by dsimp only; omega) _) (by dsimp only; omega) _)
           clear bs7 HB7 HDt7 cs cC fC bC
           generalize ((w7.setCell ⟨w6.heap.size, 0, none⟩ (.int .i64 (p : Int))).setCell ⟨w6.heap.size, 1, none⟩ (.int .i64 (q : Int))) = w8 at *
           generalize w6.heap.size = ax at *)
        | (have bx8 := Lib.hid (show Blk (w7.alloc (.cells #[.int .i64 (p : Int), .int .i64 (q : Int)] 27)) (w7.heap.size) 27 #[.int .i64 (p : Int), .int .i64 (q : Int)] from Blk.new w7 27 _)
           have bs8 := Lib.hid (show Blk (w7.alloc (.cells #[.int .i64 (p : Int), .int .i64 (q : Int)] 27)) (w2.heap.size) 27 #[.int .i64 (p : Int), .int .i64 (q : Int)] from bs7.out.alloc _)
           have HB8 := Lib.hid (show Below w.heap.size w (w7.alloc (.cells #[.int .i64 (p : Int), .int .i64 (q : Int)] 27)) from bl_alloc HB7.out _)
           have HDt8 := Lib.hid (show Below w1.heap.size w1 (w7.alloc (.cells #[.int .i64 (p : Int), .int .i64 (q : Int)] 27)) from bl_alloc HDt7.out _)
           clear bs7 HB7 HDt7 cs
           generalize (w7.alloc (.cells #[.int .i64 (p : Int), .int .i64 (q : Int)] 27)) = w8 at *
           generalize w7.heap.size = ax at *)
      all_goals have hks8 := bs8.out.lt
      all_goals have hkx8 := bx8.out.lt
      all_goals
        (skip
         have cs := bs8.out.cell
         have cx := bx8.out.cell
         go_wp2
         (try (go_quiet (fail); go_wp2))
         go_ret
         exact ⟨rfl, by repeat (first | with_reducible exact HB8.out | refine bl_drewN ?_ _ | refine Below.drew ?_ | refine bl_alloc ?_ _ | refine bl_set ?_ (by dsimp only; omega) _)⟩)
  · obtain ⟨gg, rfl, hcap1, hcap2⟩ := own_cap HO.out (by omega)
    unfold maxLen at hcap2
    clear HO
    have j1 : (0 : Int) ≤ (ts.length : Int) / 2 := by omega
    have j2 : (ts.length : Int) / 2 ≤ (ts.length : Int) := by omega
    have j3 : (ts.length : Int) ≤ (ct : Int) := by omega
    have j4 : (ts.length : Int) / 2 ≤ (ct : Int) := by omega
    have j5 : ((ts.length : Int) / 2 == (ct : Int)) = false := by rw [beq_eq_false_iff_ne]; omega
    have j6 : ¬ (ts.length : Int) / 2 = (ct : Int) := by omega
    have j7 : ¬ ts.length / 2 = ct := by omega
    have HL1 := Lib.hid (fun (W : World) (nn cc : Nat) (hnn : nn = ts.length / 2) (hD : Below w1.heap.size w1 W) (hE : EG W e0) => iHigh_is W (some ⟨gg, 0, none⟩) nn cc (ts.take (ts.length / 2)) (by rw [hnn]; exact Tks.take ((HTt.out.below hD).more hD.size) (by omega)) (by omega) e0 hE p1 q1 HP1.out)
    have HL2 := Lib.hid (fun (W : World) (nn oo cc : Nat) (hnn : nn = ts.length - ts.length / 2) (ho : oo = 0 + ts.length / 2 * 5) (hD : Below w1.heap.size w1 W) (hE : EG W e0) => iHigh_is W (some ⟨gg, oo, none⟩) nn cc (ts.drop (ts.length / 2)) (by rw [hnn]; exact Tks.drop (k := (ts.length / 2)) ((HTt.out.below hD).more hD.size) ho) (by omega) e0 hE p2 q2 HP2.out)
    have HL3 := Lib.hid (fun (W : World) (hE : EG W e0) => iAdd_is W e0 hE p1 q1 p2 q2 p q true HADD.out.1 HADD.out.2)
    have cs := bs4.out.cell
    have hS4 := (Blk.two (show Blk w4 (w2.heap.size) 27 #[.int .i64 (p : Int), .int .i64 (q : Int)] from by repeat (first | with_reducible exact bs4.out | with_reducible refine Blk.alloc ?_ _)))
    have hks4 := bs4.out.lt
    have hz4 := HB4.out.size
    have hzdt4 := HDt4.out.size
    have hN4 : Blk (w4.alloc (.cells #[.int .i64 0, .int .i64 0] 27)) (w4.heap.size) 27 #[.int .i64 0, .int .i64 0] := by have hh := Blk.new w4 27 #[.int .i64 0, .int .i64 0]; (try simp only [World.size_alloc] at hh); exact hh
    go_wp2_with fail
    go_region_held3 (fun W => (W.cell? ⟨w2.heap.size, 0, none⟩ = some (.int .i64 (p : Int)) ∧ W.cell? ⟨w2.heap.size, 1, none⟩ = some (.int .i64 (q : Int)))) (first | exact hS4 | exact hS5 | exact hS6 | exact hS7 | exact two_alloc1 hS4 _ | exact two_alloc1 hS5 _ | exact two_alloc1 hS6 _ | exact two_alloc1 hS7 _ | exact two_set1 hS7 (by omega) _ _)
      ((first
        | (go_at_call 18; (with_reducible refine (HL1.out _ _ _ ?_ ?_ ?_).mono ?_); (· (omega)); (· (repeat (first | with_reducible exact HDt4.out | with_reducible refine Below.drew ?_ | with_reducible refine bl_drewN ?_ _ | with_reducible refine bl_alloc ?_ _))); (· (repeat (first | exact HE.out.below HB4.out | with_reducible refine EG.drewN ?_ _ | with_reducible refine EG.drew ?_ | with_reducible refine EG.alloc ?_ _))); rintro e w5 ⟨rfl, hb⟩; have hs5 := hb.size; have HB5 := Lib.hid (show Below w.heap.size w w5 from bl_trans (by repeat (first | with_reducible exact HB4.out | with_reducible refine bl_drewN ?_ _ | with_reducible refine Below.drew ?_ | with_reducible refine bl_alloc ?_ _)) hb); have bs5 := Lib.hid (show Blk w5 (w2.heap.size) 27 #[.int .i64 (p : Int), .int .i64 (q : Int)] from Blk.below (by repeat (first | with_reducible exact bs4.out | with_reducible refine Blk.drewN ?_ _ | with_reducible refine Blk.drew ?_ | with_reducible refine Blk.alloc ?_ _)) hb (by have := bs4.out.lt; first | exact this | omega | (simp; omega))); have cs := bs5.out.cell; have HDt5 := Lib.hid (show Below w1.heap.size w1 w5 from bl_trans (by repeat (first | with_reducible exact HDt4.out | with_reducible refine Below.drew ?_ | with_reducible refine bl_drewN ?_ _ | with_reducible refine bl_alloc ?_ _)) hb); have hS5 := Blk.two bs5.out; have hks5 := bs5.out.lt; have hz5 := HB5.out.size; have hzdt5 := HDt5.out.size; (first | (have bC := Lib.hid (show Blk w5 (w4.heap.size) 27 #[.int .i64 0, .int .i64 0] from Blk.below (Blk.drew hN4) hb hN4.lt)) | (have bC := Lib.hid (show Blk w5 (w4.heap.size) 27 #[.int .i64 0, .int .i64 0] from Blk.below hN4 hb hN4.lt)) | (have bC := Lib.hid (Blk.below (Blk.drew bC.out) hb bC.out.lt)) | (have bC := Lib.hid (Blk.below bC.out hb bC.out.lt)) | skip); (first | (have cC := bC.out.cell; have fC := bC.out.frozen) | skip); have hN5 := Blk.new w5 27 #[.int .i64 0, .int .i64 0]; clear hb)
        | (go_at_call 18; (with_reducible refine (HL2.out _ _ _ _ ?_ ?_ ?_ ?_).mono ?_); (· (omega)); (· (omega)); (· (repeat (first | with_reducible exact HDt5.out | with_reducible refine Below.drew ?_ | with_reducible refine bl_drewN ?_ _ | with_reducible refine bl_alloc ?_ _))); (· (repeat (first | exact HE.out.below HB5.out | with_reducible refine EG.drewN ?_ _ | with_reducible refine EG.drew ?_ | with_reducible refine EG.alloc ?_ _))); rintro e w6 ⟨rfl, hb⟩; have hs6 := hb.size; have HB6 := Lib.hid (show Below w.heap.size w w6 from bl_trans (by repeat (first | with_reducible exact HB5.out | with_reducible refine bl_drewN ?_ _ | with_reducible refine Below.drew ?_ | with_reducible refine bl_alloc ?_ _)) hb); have bs6 := Lib.hid (show Blk w6 (w2.heap.size) 27 #[.int .i64 (p : Int), .int .i64 (q : Int)] from Blk.below (by repeat (first | with_reducible exact bs5.out | with_reducible refine Blk.drewN ?_ _ | with_reducible refine Blk.drew ?_ | with_reducible refine Blk.alloc ?_ _)) hb (by have := bs5.out.lt; first | exact this | omega | (simp; omega))); have cs := bs6.out.cell; have HDt6 := Lib.hid (show Below w1.heap.size w1 w6 from bl_trans (by repeat (first | with_reducible exact HDt5.out | with_reducible refine Below.drew ?_ | with_reducible refine bl_drewN ?_ _ | with_reducible refine bl_alloc ?_ _)) hb); have hS6 := Blk.two bs6.out; have hks6 := bs6.out.lt; have hz6 := HB6.out.size; have hzdt6 := HDt6.out.size; (first | (have bC := Lib.hid (show Blk w6 (w5.heap.size) 27 #[.int .i64 0, .int .i64 0] from Blk.below (Blk.drew hN5) hb hN5.lt)) | (have bC := Lib.hid (show Blk w6 (w5.heap.size) 27 #[.int .i64 0, .int .i64 0] from Blk.below hN5 hb hN5.lt)) | (have bC := Lib.hid (Blk.below (Blk.drew bC.out) hb bC.out.lt)) | (have bC := Lib.hid (Blk.below bC.out hb bC.out.lt)) | skip); (first | (have cC := bC.out.cell; have fC := bC.out.frozen) | skip); have hN6 := Blk.new w6 27 #[.int .i64 0, .int .i64 0]; clear hb)
        | (go_at_call 24; refine (HL3.out _ (by repeat (first | exact HE.out.below HB6.out | with_reducible refine EG.drewN ?_ _ | with_reducible refine EG.drew ?_ | with_reducible refine EG.alloc ?_ _))).mono ?_; rintro e w7 ⟨rfl, hb⟩; have hs7 := hb.size; have HB7 := Lib.hid (show Below w.heap.size w w7 from bl_trans (by repeat (first | with_reducible exact HB6.out | with_reducible refine bl_drewN ?_ _ | with_reducible refine Below.drew ?_ | with_reducible refine bl_alloc ?_ _)) hb); have bs7 := Lib.hid (show Blk w7 (w2.heap.size) 27 #[.int .i64 (p : Int), .int .i64 (q : Int)] from Blk.below (by repeat (first | with_reducible exact bs6.out | with_reducible refine Blk.drewN ?_ _ | with_reducible refine Blk.drew ?_ | with_reducible refine Blk.alloc ?_ _)) hb (by have := bs6.out.lt; first | exact this | omega | (simp; omega))); have cs := bs7.out.cell; have HDt7 := Lib.hid (show Below w1.heap.size w1 w7 from bl_trans (by repeat (first | with_reducible exact HDt6.out | with_reducible refine Below.drew ?_ | with_reducible refine bl_drewN ?_ _ | with_reducible refine bl_alloc ?_ _)) hb); have hS7 := Blk.two bs7.out; have hks7 := bs7.out.lt; have hz7 := HB7.out.size; have hzdt7 := HDt7.out.size; (first | (have bC := Lib.hid (show Blk w7 (w6.heap.size) 27 #[.int .i64 0, .int .i64 0] from Blk.below (Blk.drew hN6) hb hN6.lt)) | (have bC := Lib.hid (show Blk w7 (w6.heap.size) 27 #[.int .i64 0, .int .i64 0] from Blk.below hN6 hb hN6.lt)) | (have bC := Lib.hid (Blk.below (Blk.drew bC.out) hb bC.out.lt)) | (have bC := Lib.hid (Blk.below bC.out hb bC.out.lt)) | skip); (first | (have cC := bC.out.cell; have fC := bC.out.frozen) | skip); have hN7 := Blk.new w7 27 #[.int .i64 0, .int .i64 0]; clear hb)))
    all_goals first
      | (have bx8 := Lib.hid (show Blk ((w7.setCell ⟨w4.heap.size, 0, none⟩ (.int .i64 (p : Int))).setCell ⟨w4.heap.size, 1, none⟩ (.int .i64 (q : Int))) (w4.heap.size) 27 #[.int .i64 (p : Int), .int .i64 (q : Int)] from (bC.out.set_ 0 _).set_ 1 _)
         have hnes : (w2.heap.size) ≠ w4.heap.size := by omega
         have bs8 := Lib.hid (show Blk ((w7.setCell ⟨w4.heap.size, 0, none⟩ (.int .i64 (p : Int))).setCell ⟨w4.heap.size, 1, none⟩ (.int .i64 (q : Int))) (w2.heap.size) 27 #[.int .i64 (p : Int), .int .i64 (q : Int)] from (bs7.out.far hnes _).far hnes _)
         have HB8 := Lib.hid (show Below w.heap.size w ((w7.setCell ⟨w4.heap.size, 0, none⟩ (.int .i64 (p : Int))).setCell ⟨w4.heap.size, 1, none⟩ (.int .i64 (q : Int))) from bl_set (bl_set HB7.out (by dsimp only; omega) _) (by dsimp only; omega) _)
         have HDt8 := Lib.hid (show Below w1.heap.size w1 ((w7.setCell ⟨w4.heap.size, 0, none⟩ (.int .i64 (p : Int))).setCell ⟨w4.heap.size, 1, none⟩ (.int .i64 (q : Int))) from bl_set (bl_set HDt7.out (by dsimp only; omega) _) (by dsimp only; omega) _)
         clear bs7 HB7 HDt7 cs cC fC bC
         generalize ((w7.setCell ⟨w4.heap.size, 0, none⟩ (.int .i64 (p : Int))).setCell ⟨w4.heap.size, 1, none⟩ (.int .i64 (q : Int))) = w8 at *
         generalize w4.heap.size = ax at *)
      | (have bx8 := Lib.hid (show Blk ((w7.setCell ⟨w5.heap.size, 0, none⟩ (.int .i64 (p : Int))).setCell ⟨w5.heap.size, 1, none⟩ (.int .i64 (q : Int))) (w5.heap.size) 27 #[.int .i64 (p : Int), .int .i64 (q : Int)] from (bC.out.set_ 0 _).set_ 1 _)
         have hnes : (w2.heap.size) ≠ w5.heap.size := by omega
         have bs8 := Lib.hid (show Blk ((w7.setCell ⟨w5.heap.size, 0, none⟩ (.int .i64 (p : Int))).setCell ⟨w5.heap.size, 1, none⟩ (.int .i64 (q : Int))) (w2.heap.size) 27 #[.int .i64 (p : Int), .int .i64 (q : Int)] from (bs7.out.far hnes _).far hnes _)
         have HB8 := Lib.hid (show Below w.heap.size w ((w7.setCell ⟨w5.heap.size, 0, none⟩ (.int .i64 (p : Int))).setCell ⟨w5.heap.size, 1, none⟩ (.int .i64 (q : Int))) from bl_set (bl_set HB7.out (by dsimp only; omega) _) (by dsimp only; omega) _)
         have HDt8 := Lib.hid (show Below w1.heap.size w1 ((w7.setCell ⟨w5.heap.size, 0, none⟩ (.int .i64 (p : Int))).setCell ⟨w5.heap.size, 1, none⟩ (.int .i64 (q : Int))) from bl_set (bl_set HDt7.out (by dsimp only; omega) _) (by dsimp only; omega) _)
         clear bs7 HB7 HDt7 cs cC fC bC
         generalize ((w7.setCell ⟨w5.heap.size, 0, none⟩ (.int .i64 (p : Int))).setCell ⟨w5.heap.size, 1, none⟩ (.int .i64 (q : Int))) = w8 at *
         generalize w5.heap.size = ax at *)
      | (have bx8 := Lib.hid (show Blk ((w7.setCell ⟨w6.heap.size, 0, none⟩ (.int .i64 (p : Int))).setCell ⟨w6.heap.size, 1, none⟩ (.int .i64 (q : Int))) (w6.heap.size) 27 #[.int .i64 (p : Int), .int .i64 (q : Int)] from (bC.out.set_ 0 _).set_ 1 _)
         have hnes : (w2.heap.size) ≠ w6.heap.size := by omega
         have bs8 := Lib.hid (show Blk ((w7.setCell ⟨w6.heap.size, 0, none⟩ (.int .i64 (p : Int))).setCell ⟨w6.heap.size, 1, none⟩ (.int .i64 (q : Int))) (w2.heap.size) 27 #[.int .i64 (p : Int), .int .i64 (q : Int)] from (bs7.out.far hnes _).far hnes _)
         have HB8 := Lib.hid (show Below w.heap.size w ((w7.setCell ⟨w6.heap.size, 0, none⟩ (.int .i64 (p : Int))).setCell ⟨w6.heap.size, 1, none⟩ (.int .i64 (q : Int))) from bl_set (bl_set HB7.out (by dsimp only; omega) _) (by dsimp only; omega) _)
         have HDt8 := Lib.hid (show Below w1.heap.size w1 ((w7.setCell ⟨w6.heap.size, 0, none⟩ (.int .i64 (p : Int))).setCell ⟨w6.heap.size, 1, none⟩ (.int .i64 (q : Int))) from bl_set (bl_set HDt7.out (by dsimp only; omega) _) (by dsimp only; omega) _)
         clear bs7 HB7 HDt7 cs cC fC bC
         generalize ((w7.setCell ⟨w6.heap.size, 0, none⟩ (.int .i64 (p : Int))).setCell ⟨w6.heap.size, 1, none⟩ (.int .i64 (q : Int))) = w8 at *
         generalize w6.heap.size = ax at *)
      | (have bx8 := Lib.hid (show Blk (w7.alloc (.cells #[.int .i64 (p : Int), .int .i64 (q : Int)] 27)) (w7.heap.size) 27 #[.int .i64 (p : Int), .int .i64 (q : Int)] from Blk.new w7 27 _)
         have bs8 := Lib.hid (show Blk (w7.alloc (.cells #[.int .i64 (p : Int), .int .i64 (q : Int)] 27)) (w2.heap.size) 27 #[.int .i64 (p : Int), .int .i64 (q : Int)] from bs7.out.alloc _)
         have HB8 := Lib.hid (show Below w.heap.size w (w7.alloc (.cells #[.int .i64 (p : Int), .int .i64 (q : Int)] 27)) from bl_alloc HB7.out _)
         have HDt8 := Lib.hid (show Below w1.heap.size w1 (w7.alloc (.cells #[.int .i64 (p : Int), .int .i64 (q : Int)] 27)) from bl_alloc HDt7.out _)
         clear bs7 HB7 HDt7 cs
         generalize (w7.alloc (.cells #[.int .i64 (p : Int), .int .i64 (q : Int)] 27)) = w8 at *
         generalize w7.heap.size = ax at *)
    all_goals have hks8 := bs8.out.lt
    all_goals have hkx8 := bx8.out.lt
    all_goals
      (skip
       have cs := bs8.out.cell
       have cx := bx8.out.cell
       go_wp2
       (try (go_quiet (fail); go_wp2))
       go_ret
       exact ⟨rfl, by repeat (first | with_reducible exact HB8.out | refine bl_drewN ?_ _ | refine Below.drew ?_ | refine bl_alloc ?_ _ | refine bl_set ?_ (by dsimp only; omega) _)⟩)

end Go.Proofs.YthaflbgkhlggkaaDoor
