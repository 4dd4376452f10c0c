/- Walk of the law FnVirtualOrder. -/
import Derived.Test.YtpngfonnoepmfaaDoorM6
import Derived.Test.YtpngfonnoepmfaaDoorM2
import Derived.Test.YtpngfonnoepmfaaDoorM8
import Derived.Test.YtpngfonnoepmfaaDoorM5
import Derived.Test.YtpngfonnoepmfaaDoorM3
import Derived.Deep.RegionWith
import Derived.Deep.RegionHeld3
namespace Go.Proofs.YtpngfonnoepmfaaDoor
open Go.RowKit
set_option linter.unusedVariables false

set_option maxRecDepth 100000 in
set_option maxHeartbeats 6000000 in
theorem fnVirtualOrder_walk (w : World) (A : Option Addr) (n c : Nat) (f : Nat → Int) (h : Code w w.heap.size A n c f) (e0 : Addr) (he : EG w e0) :
    Calls Tryd.prog 14 #[.slice A n c] w fun e w' => e = .returned (.bool true) ∧ Below w.heap.size w w' := by
  have H := Lib.hid h
  have HE := Lib.hid he
  have hle := h.le
  have hmax := h.max
  unfold maxLen at hmax
  clear h he
  by_cases hn : 1048576 < n
  · go_enter Tryd.func14, Tryd.ntmps14
    go_wp2
    go_ret
    exact ⟨rfl, Below.refl _ _⟩
  go_enter Tryd.func14, Tryd.ntmps14
  go_wp2_with fail
  refine (dDrawVirtualDue_any _ A n c f H.out).mono ?_
  rintro e w1 ⟨At, ct, ts, a, rfl, hl, a0, a1, ho, hb⟩
  have HB1 := Lib.hid hb
  have HO := Lib.hid ho
  have HTt := Lib.hid ho.reads.2
  clear hb H ho
  have HDt1 := Lib.hid (Below.refl w1.heap.size w1)
  cases hd : dueB ts a
  · have hd0 := dueV_no hd
    go_wp2_with fail
    (try (go_quiet (fail); go_wp2_with fail))
    refine (iDue_is _ At _ ct ts ((HTt.out.below (by repeat (first | with_reducible exact HDt1.out | with_reducible refine Below.drew ?_ | with_reducible refine bl_drewN ?_ _ | with_reducible refine bl_alloc ?_ _) : Below w1.heap.size w1 _)).more (Below.size (by repeat (first | with_reducible exact HDt1.out | with_reducible refine Below.drew ?_ | with_reducible refine bl_drewN ?_ _ | with_reducible refine bl_alloc ?_ _) : Below w1.heap.size w1 _))) (by omega) e0 (by repeat (first | exact HE.out.below HB1.out | refine EG.drewN ?_ _ | refine EG.drew ?_ | refine EG.alloc ?_ _)) a 0 0 false hd0 hd).mono ?_
    rintro e w2 ⟨rfl, hb⟩
    have hs2 := hb.size
    have HB2 := Lib.hid (show Below w.heap.size w w2 from bl_trans (by repeat (first | with_reducible exact HB1.out | with_reducible refine bl_drewN ?_ _ | with_reducible refine Below.drew ?_ | with_reducible refine bl_alloc ?_ _)) hb)
    have HDt2 := Lib.hid (show Below w1.heap.size w1 w2 from bl_trans (by repeat (first | with_reducible exact HDt1.out | with_reducible refine Below.drew ?_ | with_reducible refine bl_drewN ?_ _ | with_reducible refine bl_alloc ?_ _)) hb)
    clear hb HB1 HDt1
    go_wp2_with fail
    (try (go_quiet (fail); go_wp2_with fail))
    refine (sDue_is _ At _ ct ts ((HTt.out.below (by repeat (first | with_reducible exact HDt2.out | with_reducible refine Below.drew ?_ | with_reducible refine bl_drewN ?_ _ | with_reducible refine bl_alloc ?_ _) : Below w1.heap.size w1 _)).more (Below.size (by repeat (first | with_reducible exact HDt2.out | with_reducible refine Below.drew ?_ | with_reducible refine bl_drewN ?_ _ | with_reducible refine bl_alloc ?_ _) : Below w1.heap.size w1 _))) (by omega) a 0 0 false hd0 hd).mono ?_
    rintro e w3 ⟨rfl, hb⟩
    have hs3 := hb.size
    have HB3 := Lib.hid (show Below w.heap.size w w3 from bl_trans (by repeat (first | with_reducible exact HB2.out | with_reducible refine bl_drewN ?_ _ | with_reducible refine Below.drew ?_ | with_reducible refine bl_alloc ?_ _)) hb)
    have bx3 := Lib.hid (show Blk w3 (w2.heap.size) 27 #[.int .i64 0, .int .i64 0] from Blk.below (by have hh := Blk.new w2 27 #[.int .i64 0, .int .i64 0]; (try simp only [World.size_alloc] at hh); repeat (first | exact hh | with_reducible refine Blk.drewN ?_ _ | with_reducible refine Blk.drew ?_ | with_reducible refine Blk.alloc ?_ _)) hb (by first | omega | (simp; done) | (simp; omega)))
    have HDt3 := Lib.hid (show Below w1.heap.size w1 w3 from bl_trans (by repeat (first | with_reducible exact HDt2.out | with_reducible refine Below.drew ?_ | with_reducible refine bl_drewN ?_ _ | with_reducible refine bl_alloc ?_ _)) hb)
    clear hb HB2 HDt2
    have cx := fun o0 => (bx3.out.alloc o0).cell
    go_wp2
    (try (go_quiet (fail); go_wp2))
    go_ret
    exact ⟨rfl, by repeat (first | with_reducible exact HB3.out | refine bl_drewN ?_ _ | refine Below.drew ?_ | refine bl_alloc ?_ _ | refine bl_set ?_ (by dsimp only; omega) _)⟩
  have hf : facB ts = true := by unfold dueB at hd; simp at hd; exact hd.1
  have hat : atB ts a = true := by unfold dueB at hd; simp at hd; exact hd.2
  have i1 : 0 ≤ a := by unfold atB at hat; simp at hat; exact hat.1
  have i2 : a < (ts.length : Int) := by unfold atB at hat; simp at hat; exact hat.2
  obtain ⟨k, rfl⟩ : ∃ k : Nat, a = (k : Int) := ⟨a.toNat, by omega⟩
  have hlt : k < ts.length := by omega
  obtain ⟨t, ht⟩ : ∃ t, ts[k]? = some t := ⟨ts[k], List.getElem?_eq_getElem hlt⟩
  obtain ⟨P, Q, hPQ⟩ : ∃ p q, dueV ts (k : Int) = (p, q) := ⟨_, _, rfl⟩
  have hdt : dueT ts t = (P, Q) := by rw [← dueV_at hf ht]; exact hPQ
  have sh := dueT_sh hf (List.mem_of_getElem? ht)
  rw [hdt] at sh
  have HD := Lib.hid (And.intro hPQ hd)
  have HF := Lib.hid hf
  have HS := Lib.hid sh
  have HDT := Lib.hid hdt
  have HTK := Lib.hid ht
  clear hPQ hd hdt sh hf hat ht
  have hAt : ∃ gg, At = some ⟨gg, 0, none⟩ := by
    rcases HO.out.2 with ⟨e, h0⟩ | ⟨gg, cap, cur, e, _⟩
    · omega
    · injection e with e1 e2 e3
      exact ⟨gg, e1⟩
  obtain ⟨gg, rfl⟩ := hAt
  obtain ⟨m, hm⟩ : ∃ m, ts.length = m := ⟨_, rfl⟩
  have HM := Lib.hid hm.symm
  rw [hm] at HTt hl hlt i2 ⊢
  clear hm
  go_wp2_with fail
  (try (go_quiet (fail); go_wp2_with fail))
  refine (iDue_is _ (some ⟨gg, 0, none⟩) m ct ts ((HTt.out.below (by repeat (first | with_reducible exact HDt1.out | with_reducible refine Below.drew ?_ | with_reducible refine bl_drewN ?_ _ | with_reducible refine bl_alloc ?_ _) : Below w1.heap.size w1 _)).more (Below.size (by repeat (first | with_reducible exact HDt1.out | with_reducible refine Below.drew ?_ | with_reducible refine bl_drewN ?_ _ | with_reducible refine bl_alloc ?_ _) : Below w1.heap.size w1 _))) (by omega) e0 (by repeat (first | exact HE.out.below HB1.out | refine EG.drewN ?_ _ | refine EG.drew ?_ | refine EG.alloc ?_ _)) (k : Int) P Q true HD.out.1 HD.out.2).mono ?_
  rintro e w2 ⟨rfl, hb⟩
  have hs2 := hb.size
  have HB2 := Lib.hid (show Below w.heap.size w w2 from bl_trans (by repeat (first | with_reducible exact HB1.out | with_reducible refine bl_drewN ?_ _ | with_reducible refine Below.drew ?_ | with_reducible refine bl_alloc ?_ _)) hb)
  have HDt2 := Lib.hid (show Below w1.heap.size w1 w2 from bl_trans (by repeat (first | with_reducible exact HDt1.out | with_reducible refine Below.drew ?_ | with_reducible refine bl_drewN ?_ _ | with_reducible refine bl_alloc ?_ _)) hb)
  clear hb HB1 HDt1
  go_wp2_with fail
  (try (go_quiet (fail); go_wp2_with fail))
  refine (sDue_is _ (some ⟨gg, 0, none⟩) m ct ts ((HTt.out.below (by repeat (first | with_reducible exact HDt2.out | with_reducible refine Below.drew ?_ | with_reducible refine bl_drewN ?_ _ | with_reducible refine bl_alloc ?_ _) : Below w1.heap.size w1 _)).more (Below.size (by repeat (first | with_reducible exact HDt2.out | with_reducible refine Below.drew ?_ | with_reducible refine bl_drewN ?_ _ | with_reducible refine bl_alloc ?_ _) : Below w1.heap.size w1 _))) (by omega) (k : Int) P Q true HD.out.1 HD.out.2).mono ?_
  rintro e w3 ⟨rfl, hb⟩
  have hs3 := hb.size
  have HB3 := Lib.hid (show Below w.heap.size w w3 from bl_trans (by repeat (first | with_reducible exact HB2.out | with_reducible refine bl_drewN ?_ _ | with_reducible refine Below.drew ?_ | with_reducible refine bl_alloc ?_ _)) hb)
  have bx3 := Lib.hid (show Blk w3 (w2.heap.size) 27 #[.int .i64 (P : Int), .int .i64 (Q : Int)] from Blk.below (by have hh := Blk.new w2 27 #[.int .i64 (P : Int), .int .i64 (Q : Int)]; (try simp only [World.size_alloc] at hh); repeat (first | exact hh | with_reducible refine Blk.drewN ?_ _ | with_reducible refine Blk.drew ?_ | with_reducible refine Blk.alloc ?_ _)) hb (by first | omega | (simp; done) | (simp; omega)))
  have HDt3 := Lib.hid (show Below w1.heap.size w1 w3 from bl_trans (by repeat (first | with_reducible exact HDt2.out | with_reducible refine Below.drew ?_ | with_reducible refine bl_drewN ?_ _ | with_reducible refine bl_alloc ?_ _)) hb)
  clear hb HB2 HDt2
  have cx := fun o0 => (bx3.out.alloc o0).cell
  go_wp2
  go_loopw [9] (fun i wr => ∃ j : Nat, j ≤ m ∧ i = .int .i64 j ∧ Hid (Blk wr (w2.heap.size) 27 #[.int .i64 (P : Int), .int .i64 (Q : Int)]) ∧ Hid (Below w.heap.size w wr) ∧ Hid (Below w1.heap.size w1 wr)) (fun i _ => m - (intOf i).toNat)
  case atStart => exact ⟨0, Nat.zero_le _, rfl, bx3.out.alloc _, bl_alloc HB3.out _, bl_alloc HDt3.out _⟩
  case round =>
    obtain ⟨j, hj, rfl, bx10, HB10, HDt10⟩ := hrel
    obtain ⟨w10, hw10⟩ : ∃ W, W = wr := ⟨_, rfl⟩
    subst hw10
    have hxlt : (w2.heap.size) < w10.heap.size := bx10.out.lt
    by_cases hjm : j < m
    · skip
      have j2 : (j : Int) < (m : Int) := by omega
      obtain ⟨u, hu⟩ : ∃ u, ts[j]? = some u := ⟨ts[j]'(by rw [← HM.out]; exact hjm), List.getElem?_eq_getElem _⟩
      obtain ⟨P2, Q2, hPQ2⟩ : ∃ p q, dueV ts (j : Int) = (p, q) := ⟨_, _, rfl⟩
      have hdb2 : dueB ts (j : Int) = true := by unfold dueB atB; rw [HF.out, ← HM.out]; simp; omega
      have hdu2 : dueT ts u = (P2, Q2) := by rw [← dueV_at HF.out hu]; exact hPQ2
      have sh2 := dueT_sh HF.out (List.mem_of_getElem? hu)
      rw [hdu2] at sh2
      obtain ⟨z, hz⟩ : ∃ z, cmpS P2 Q2 P Q = z := ⟨_, rfl⟩
      have hord : u.cr = t.cr → (z < 0 ↔ u.du < t.du) := fun hc => by
        have e := due_order HF.out (List.mem_of_getElem? hu) (List.mem_of_getElem? HTK.out) hc
        rw [hdu2, HDT.out] at e
        rw [← hz, show cmpS (P2 : Int) Q2 P Q = cmpN (P2, Q2) (P, Q) from cmp_sh sh2 HS.out]
        exact e
      have HD2 := Lib.hid (And.intro hPQ2 hdb2)
      have HU := Lib.hid hu
      have HZ := Lib.hid hz
      clear hPQ2 hdb2 hdu2 sh2 hz hu
      have cx := bx10.out.cell
      go_wp2_with fail
      (try (go_quiet (fail); go_wp2_with fail))
      refine (iDue_is _ (some ⟨gg, 0, none⟩) m ct ts ((HTt.out.below (by repeat (first | with_reducible exact HDt10.out | with_reducible refine Below.drew ?_ | with_reducible refine bl_drewN ?_ _ | with_reducible refine bl_alloc ?_ _) : Below w1.heap.size w1 _)).more (Below.size (by repeat (first | with_reducible exact HDt10.out | with_reducible refine Below.drew ?_ | with_reducible refine bl_drewN ?_ _ | with_reducible refine bl_alloc ?_ _) : Below w1.heap.size w1 _))) (by omega) e0 (by repeat (first | exact HE.out.below HB10.out | refine EG.drewN ?_ _ | refine EG.drew ?_ | refine EG.alloc ?_ _)) (j : Int) P2 Q2 true HD2.out.1 HD2.out.2).mono ?_
      rintro e w11 ⟨rfl, hb⟩
      have hs11 := hb.size
      have HB11 := Lib.hid (show Below w.heap.size w w11 from bl_trans (by repeat (first | with_reducible exact HB10.out | with_reducible refine bl_drewN ?_ _ | with_reducible refine Below.drew ?_ | with_reducible refine bl_alloc ?_ _)) hb)
      have bx11 := Lib.hid (show Blk w11 (w2.heap.size) 27 #[.int .i64 (P : Int), .int .i64 (Q : Int)] from Blk.below (by repeat (first | with_reducible exact bx10.out | with_reducible refine Blk.drewN ?_ _ | with_reducible refine Blk.drew ?_ | with_reducible refine Blk.alloc ?_ _)) hb (by have := bx10.out.lt; first | omega | (simp; omega)))
      have HDt11 := Lib.hid (show Below w1.heap.size w1 w11 from bl_trans (by repeat (first | with_reducible exact HDt10.out | with_reducible refine Below.drew ?_ | with_reducible refine bl_drewN ?_ _ | with_reducible refine bl_alloc ?_ _)) hb)
      clear hb HB10 bx10 cx HDt10
      obtain ⟨hbl, c0, c1, c2, c3, c4⟩ := Tks.get5 (HTt.out.below HDt11.out) HTK.out
      obtain ⟨_, a0, a1, a2, a3, a4⟩ := Tks.get5 (HTt.out.below HDt11.out) HU.out
      have hbl2 := Nat.lt_of_lt_of_le hbl HDt11.out.size
      simp only [Nat.zero_add] at c2 c4 a2 a4
      clear c0 c1 c3 a0 a1 a3
      obtain ⟨lo, hi, du, ev, cr⟩ := t
      obtain ⟨lo2, hi2, du2, ev2, cr2⟩ := u
      dsimp only at c2 c4 a2 a4 hord
      have HX := Lib.hid (And.intro c2 (And.intro c4 (And.intro a2 a4)))
      clear c2 c4 a2 a4
      by_cases hc : cr2 = cr
      · subst hc
        have hord := hord rfl
        have HEq := Lib.hid hord
        clear hord
        by_cases hz : z < 0
        · skip
          have z1 : decide (z < 0) = true := by simp; exact hz
          have z2 : du2 < du := HEq.out.1 hz
          have z3 : decide (du2 < du) = true := by simp; exact z2
          have cx := fun o0 => (bx11.out.alloc o0).cell
          have hS11 := And.intro (And.intro ((World.cell?_alloc_lt w11 (.cells #[.int .i64 (P2 : Int), .int .i64 (Q2 : Int)] 27) ⟨gg, k * 5 + 2, none⟩ hbl2).trans HX.out.1) (And.intro ((World.cell?_alloc_lt w11 (.cells #[.int .i64 (P2 : Int), .int .i64 (Q2 : Int)] 27) ⟨gg, k * 5 + 4, none⟩ hbl2).trans HX.out.2.1) (And.intro ((World.cell?_alloc_lt w11 (.cells #[.int .i64 (P2 : Int), .int .i64 (Q2 : Int)] 27) ⟨gg, j * 5 + 2, none⟩ hbl2).trans HX.out.2.2.1) ((World.cell?_alloc_lt w11 (.cells #[.int .i64 (P2 : Int), .int .i64 (Q2 : Int)] 27) ⟨gg, j * 5 + 4, none⟩ hbl2).trans HX.out.2.2.2)))) (And.intro (Blk.two (show Blk (w11.alloc (.cells #[.int .i64 (P2 : Int), .int .i64 (Q2 : Int)] 27)) (w2.heap.size) 27 #[.int .i64 (P : Int), .int .i64 (Q : Int)] from by repeat (first | with_reducible exact bx11.out | with_reducible refine Blk.alloc ?_ _))) (Blk.two (show Blk (w11.alloc (.cells #[.int .i64 (P2 : Int), .int .i64 (Q2 : Int)] 27)) (w11.heap.size) 27 #[.int .i64 (P2 : Int), .int .i64 (Q2 : Int)] from by have hh := Blk.new w11 27 #[.int .i64 (P2 : Int), .int .i64 (Q2 : Int)]; (try simp only [World.size_alloc] at hh); repeat (first | exact hh | with_reducible refine Blk.alloc ?_ _))))
          go_wp2_with fail
          first
          | (go_region_held3 (fun W => ((W.cell? ⟨gg, k * 5 + 2, none⟩ = some (.int .i64 du)) ∧ (W.cell? ⟨gg, k * 5 + 4, none⟩ = some (.bool cr2)) ∧ (W.cell? ⟨gg, j * 5 + 2, none⟩ = some (.int .i64 du2)) ∧ (W.cell? ⟨gg, j * 5 + 4, none⟩ = some (.bool cr2))) ∧ (W.cell? ⟨w2.heap.size, 0, none⟩ = some (.int .i64 (P : Int)) ∧ W.cell? ⟨w2.heap.size, 1, none⟩ = some (.int .i64 (Q : Int))) ∧ (W.cell? ⟨w11.heap.size, 0, none⟩ = some (.int .i64 (P2 : Int)) ∧ W.cell? ⟨w11.heap.size, 1, none⟩ = some (.int .i64 (Q2 : Int)))) (first | exact hS11 | exact hS12)
            ((first
              | (have uu := HB11; clear uu; go_at_call 21; refine (iCmp_is _ P2 Q2 P Q z HZ.out).mono ?_; rintro e w12 ⟨rfl, hb⟩; have hs12 := hb.size; have HB12 := Lib.hid (show Below w.heap.size w w12 from bl_trans (by repeat (first | with_reducible exact HB11.out | with_reducible refine bl_drewN ?_ _ | with_reducible refine Below.drew ?_ | with_reducible refine bl_alloc ?_ _)) hb); have bx12 := Lib.hid (show Blk w12 (w2.heap.size) 27 #[.int .i64 (P : Int), .int .i64 (Q : Int)] from Blk.below (by repeat (first | with_reducible exact bx11.out | with_reducible refine Blk.drewN ?_ _ | with_reducible refine Blk.drew ?_ | with_reducible refine Blk.alloc ?_ _)) hb (by have := bx11.out.lt; first | exact this | omega | (simp; omega))); have cx := bx12.out.cell; have be12 := Lib.hid (show Blk w12 (w11.heap.size) 27 #[.int .i64 (P2 : Int), .int .i64 (Q2 : Int)] from Blk.below (by have hh := Blk.new w11 27 #[.int .i64 (P2 : Int), .int .i64 (Q2 : Int)]; (try simp only [World.size_alloc] at hh); repeat (first | exact hh | with_reducible refine Blk.drewN ?_ _ | with_reducible refine Blk.drew ?_ | with_reducible refine Blk.alloc ?_ _)) hb (by first | omega | (simp; done) | (simp; omega))); have ce := be12.out.cell; have HDt12 := Lib.hid (show Below w1.heap.size w1 w12 from bl_trans (by repeat (first | with_reducible exact HDt11.out | with_reducible refine Below.drew ?_ | with_reducible refine bl_drewN ?_ _ | with_reducible refine bl_alloc ?_ _)) hb); have HDk12 := Lib.hid (show Below w11.heap.size w11 w12 from bl_trans (by repeat (first | with_reducible exact Below.refl _ _ | with_reducible refine bl_drewN ?_ _ | with_reducible refine Below.drew ?_ | with_reducible refine bl_alloc ?_ _)) hb); have hS12 := And.intro (And.intro ((HDk12.out.cell (p := ⟨gg, k * 5 + 2, none⟩) hbl2).trans HX.out.1) (And.intro ((HDk12.out.cell (p := ⟨gg, k * 5 + 4, none⟩) hbl2).trans HX.out.2.1) (And.intro ((HDk12.out.cell (p := ⟨gg, j * 5 + 2, none⟩) hbl2).trans HX.out.2.2.1) ((HDk12.out.cell (p := ⟨gg, j * 5 + 4, none⟩) hbl2).trans HX.out.2.2.2)))) (And.intro (Blk.two bx12.out) (Blk.two be12.out)); clear hb HB11))))
          | fail "no region"
          have hkx12 := bx12.out.lt
          have hke12 := be12.out.lt
          have cx := bx12.out.cell
          have ce := be12.out.cell
          go_wp2
          (try (go_quiet (fail); go_wp2))
          go_roundw
          case rel => exact ⟨j + 1, by omega, by go_num, Lib.hid (by repeat (first | with_reducible exact bx12.out | with_reducible refine Blk.drewN ?_ _ | with_reducible refine Blk.drew ?_ | with_reducible refine Blk.alloc ?_ _ | with_reducible refine bl_drewN ?_ _ | with_reducible refine Below.drew ?_ | with_reducible refine bl_alloc ?_ _)), Lib.hid (by repeat (first | with_reducible exact HB12.out | with_reducible refine Blk.drewN ?_ _ | with_reducible refine Blk.drew ?_ | with_reducible refine Blk.alloc ?_ _ | with_reducible refine bl_drewN ?_ _ | with_reducible refine Below.drew ?_ | with_reducible refine bl_alloc ?_ _)), Lib.hid (by repeat (first | with_reducible exact HDt12.out | with_reducible refine Blk.drewN ?_ _ | with_reducible refine Blk.drew ?_ | with_reducible refine Blk.alloc ?_ _ | with_reducible refine bl_drewN ?_ _ | with_reducible refine Below.drew ?_ | with_reducible refine bl_alloc ?_ _))⟩
          case measure => simp [intOf]; omega
        · skip
          have z1 : decide (z < 0) = false := by simp; omega
          have z2 : ¬ du2 < du := fun h => hz (HEq.out.2 h)
          have z3 : decide (du2 < du) = false := by simp; omega
          have cx := fun o0 => (bx11.out.alloc o0).cell
          have hS11 := And.intro (And.intro ((World.cell?_alloc_lt w11 (.cells #[.int .i64 (P2 : Int), .int .i64 (Q2 : Int)] 27) ⟨gg, k * 5 + 2, none⟩ hbl2).trans HX.out.1) (And.intro ((World.cell?_alloc_lt w11 (.cells #[.int .i64 (P2 : Int), .int .i64 (Q2 : Int)] 27) ⟨gg, k * 5 + 4, none⟩ hbl2).trans HX.out.2.1) (And.intro ((World.cell?_alloc_lt w11 (.cells #[.int .i64 (P2 : Int), .int .i64 (Q2 : Int)] 27) ⟨gg, j * 5 + 2, none⟩ hbl2).trans HX.out.2.2.1) ((World.cell?_alloc_lt w11 (.cells #[.int .i64 (P2 : Int), .int .i64 (Q2 : Int)] 27) ⟨gg, j * 5 + 4, none⟩ hbl2).trans HX.out.2.2.2)))) (And.intro (Blk.two (show Blk (w11.alloc (.cells #[.int .i64 (P2 : Int), .int .i64 (Q2 : Int)] 27)) (w2.heap.size) 27 #[.int .i64 (P : Int), .int .i64 (Q : Int)] from by repeat (first | with_reducible exact bx11.out | with_reducible refine Blk.alloc ?_ _))) (Blk.two (show Blk (w11.alloc (.cells #[.int .i64 (P2 : Int), .int .i64 (Q2 : Int)] 27)) (w11.heap.size) 27 #[.int .i64 (P2 : Int), .int .i64 (Q2 : Int)] from by have hh := Blk.new w11 27 #[.int .i64 (P2 : Int), .int .i64 (Q2 : Int)]; (try simp only [World.size_alloc] at hh); repeat (first | exact hh | with_reducible refine Blk.alloc ?_ _))))
          go_wp2_with fail
          first
          | (go_region_held3 (fun W => ((W.cell? ⟨gg, k * 5 + 2, none⟩ = some (.int .i64 du)) ∧ (W.cell? ⟨gg, k * 5 + 4, none⟩ = some (.bool cr2)) ∧ (W.cell? ⟨gg, j * 5 + 2, none⟩ = some (.int .i64 du2)) ∧ (W.cell? ⟨gg, j * 5 + 4, none⟩ = some (.bool cr2))) ∧ (W.cell? ⟨w2.heap.size, 0, none⟩ = some (.int .i64 (P : Int)) ∧ W.cell? ⟨w2.heap.size, 1, none⟩ = some (.int .i64 (Q : Int))) ∧ (W.cell? ⟨w11.heap.size, 0, none⟩ = some (.int .i64 (P2 : Int)) ∧ W.cell? ⟨w11.heap.size, 1, none⟩ = some (.int .i64 (Q2 : Int)))) (first | exact hS11 | exact hS12)
            ((first
              | (have uu := HB11; clear uu; go_at_call 21; refine (iCmp_is _ P2 Q2 P Q z HZ.out).mono ?_; rintro e w12 ⟨rfl, hb⟩; have hs12 := hb.size; have HB12 := Lib.hid (show Below w.heap.size w w12 from bl_trans (by repeat (first | with_reducible exact HB11.out | with_reducible refine bl_drewN ?_ _ | with_reducible refine Below.drew ?_ | with_reducible refine bl_alloc ?_ _)) hb); have bx12 := Lib.hid (show Blk w12 (w2.heap.size) 27 #[.int .i64 (P : Int), .int .i64 (Q : Int)] from Blk.below (by repeat (first | with_reducible exact bx11.out | with_reducible refine Blk.drewN ?_ _ | with_reducible refine Blk.drew ?_ | with_reducible refine Blk.alloc ?_ _)) hb (by have := bx11.out.lt; first | exact this | omega | (simp; omega))); have cx := bx12.out.cell; have be12 := Lib.hid (show Blk w12 (w11.heap.size) 27 #[.int .i64 (P2 : Int), .int .i64 (Q2 : Int)] from Blk.below (by have hh := Blk.new w11 27 #[.int .i64 (P2 : Int), .int .i64 (Q2 : Int)]; (try simp only [World.size_alloc] at hh); repeat (first | exact hh | with_reducible refine Blk.drewN ?_ _ | with_reducible refine Blk.drew ?_ | with_reducible refine Blk.alloc ?_ _)) hb (by first | omega | (simp; done) | (simp; omega))); have ce := be12.out.cell; have HDt12 := Lib.hid (show Below w1.heap.size w1 w12 from bl_trans (by repeat (first | with_reducible exact HDt11.out | with_reducible refine Below.drew ?_ | with_reducible refine bl_drewN ?_ _ | with_reducible refine bl_alloc ?_ _)) hb); have HDk12 := Lib.hid (show Below w11.heap.size w11 w12 from bl_trans (by repeat (first | with_reducible exact Below.refl _ _ | with_reducible refine bl_drewN ?_ _ | with_reducible refine Below.drew ?_ | with_reducible refine bl_alloc ?_ _)) hb); have hS12 := And.intro (And.intro ((HDk12.out.cell (p := ⟨gg, k * 5 + 2, none⟩) hbl2).trans HX.out.1) (And.intro ((HDk12.out.cell (p := ⟨gg, k * 5 + 4, none⟩) hbl2).trans HX.out.2.1) (And.intro ((HDk12.out.cell (p := ⟨gg, j * 5 + 2, none⟩) hbl2).trans HX.out.2.2.1) ((HDk12.out.cell (p := ⟨gg, j * 5 + 4, none⟩) hbl2).trans HX.out.2.2.2)))) (And.intro (Blk.two bx12.out) (Blk.two be12.out)); clear hb HB11))))
          | fail "no region"
          have hkx12 := bx12.out.lt
          have hke12 := be12.out.lt
          have cx := bx12.out.cell
          have ce := be12.out.cell
          go_wp2
          (try (go_quiet (fail); go_wp2))
          go_roundw
          case rel => exact ⟨j + 1, by omega, by go_num, Lib.hid (by repeat (first | with_reducible exact bx12.out | with_reducible refine Blk.drewN ?_ _ | with_reducible refine Blk.drew ?_ | with_reducible refine Blk.alloc ?_ _ | with_reducible refine bl_drewN ?_ _ | with_reducible refine Below.drew ?_ | with_reducible refine bl_alloc ?_ _)), Lib.hid (by repeat (first | with_reducible exact HB12.out | with_reducible refine Blk.drewN ?_ _ | with_reducible refine Blk.drew ?_ | with_reducible refine Blk.alloc ?_ _ | with_reducible refine bl_drewN ?_ _ | with_reducible refine Below.drew ?_ | with_reducible refine bl_alloc ?_ _)), Lib.hid (by repeat (first | with_reducible exact HDt12.out | with_reducible refine Blk.drewN ?_ _ | with_reducible refine Blk.drew ?_ | with_reducible refine Blk.alloc ?_ _ | with_reducible refine bl_drewN ?_ _ | with_reducible refine Below.drew ?_ | with_reducible refine bl_alloc ?_ _))⟩
          case measure => simp [intOf]; omega
      · have h1 : (cr2 == cr) = false := by rw [beq_eq_false_iff_ne]; exact hc
        cases cr2 <;> cases cr
        · exact absurd rfl hc
        · skip
          have cx := fun o0 => (bx11.out.alloc o0).cell
          have hS := (And.intro ((World.cell?_alloc_lt w11 (.cells #[.int .i64 (P2 : Int), .int .i64 (Q2 : Int)] 27) ⟨gg, k * 5 + 4, none⟩ hbl2).trans HX.out.2.1) ((World.cell?_alloc_lt w11 (.cells #[.int .i64 (P2 : Int), .int .i64 (Q2 : Int)] 27) ⟨gg, j * 5 + 4, none⟩ hbl2).trans HX.out.2.2.2))
          go_wp2_with fail
          refine wp_region_held_drew (S := (fun W => (W.cell? ⟨gg, k * 5 + 4, none⟩ = some (.bool true)) ∧ (W.cell? ⟨gg, j * 5 + 4, none⟩ = some (.bool false)))) (by kernel_rfl) (by exact hS) (fun hHeld0 => ?_)
          refine wpAnyH_take (i := 0) (oi := { dst := some 66, op := Go.Op.move (Go.Operand.tmp 3), type := 23, pos := "laws.go:1415", after := #[], guard := none }) (v := ?vu1x0) rfl (by kernel_rfl) (by kernel_rfl) (by kernel_rfl) (fun _ _ _ h => h) (Or.inl ⟨by rfl, ?hyu1x0⟩) hHeld0 ?restu1x0
          case hyu1x0 => first | (intro w hSw; (try dsimp only at hSw); go_simp; done) | (intro w hSw; (try dsimp only at hSw); go_simp; with_reducible rfl)
          (try simp only [Act.put, List.setIfInBounds_toArray, List.set_cons_zero, List.set_cons_succ])
          refine wpAnyH_take (i := 1) (oi := { dst := some 67, op := Go.Op.move (Go.Operand.tmp 9), type := 3, pos := "laws.go:1415", after := #[], guard := none }) (v := ?vu1x1) rfl (by kernel_rfl) (by kernel_rfl) (by kernel_rfl) (fun _ _ _ h => h) (Or.inl ⟨by rfl, ?hyu1x1⟩) hHeld0 ?restu1x1
          case hyu1x1 => first | (intro w hSw; (try dsimp only at hSw); go_simp; done) | (intro w hSw; (try dsimp only at hSw); go_simp; with_reducible rfl)
          (try simp only [Act.put, List.setIfInBounds_toArray, List.set_cons_zero, List.set_cons_succ])
          refine wpAnyH_take (i := 2) (oi := { dst := some 68, op := Go.Op.indexAddr 23 (Go.Operand.tmp 66) (Go.Operand.tmp 67), type := 0, pos := "laws.go:1415", after := #[{ on := 0, ground := Go.Ground.data }, { on := 1, ground := Go.Ground.data }], guard := none }) (v := ?vu1x2) rfl (by kernel_rfl) (by kernel_rfl) (by kernel_rfl) (fun _ _ _ h => h) (Or.inl ⟨by rfl, ?hyu1x2⟩) hHeld0 ?restu1x2
          case hyu1x2 => first | (intro w hSw; (try dsimp only at hSw); go_simp; done) | (intro w hSw; (try dsimp only at hSw); go_simp; with_reducible rfl)
          (try simp only [Act.put, List.setIfInBounds_toArray, List.set_cons_zero, List.set_cons_succ])
          refine wpAnyH_take (i := 3) (oi := { dst := some 69, op := Go.Op.fieldAddr 40 (Go.Operand.tmp 68) 4, type := 0, pos := "laws.go:1415", after := #[{ on := 2, ground := Go.Ground.data }], guard := none }) (v := ?vu1x3) rfl (by kernel_rfl) (by kernel_rfl) (by kernel_rfl) (fun _ _ _ h => h) (Or.inl ⟨by rfl, ?hyu1x3⟩) hHeld0 ?restu1x3
          case hyu1x3 => first | (intro w hSw; (try dsimp only at hSw); go_simp; done) | (intro w hSw; (try dsimp only at hSw); go_simp; with_reducible rfl)
          (try simp only [Act.put, List.setIfInBounds_toArray, List.set_cons_zero, List.set_cons_succ])
          refine wpAnyH_take (i := 4) (oi := { dst := some 70, op := Go.Op.load 4 (Go.Operand.tmp 69), type := 4, pos := "laws.go:1415", after := #[{ on := 3, ground := Go.Ground.data }], guard := none }) (v := ?vu1x4) rfl (by kernel_rfl) (by kernel_rfl) (by kernel_rfl) (fun _ _ _ h => h) (Or.inl ⟨by rfl, ?hyu1x4⟩) hHeld0 ?restu1x4
          case hyu1x4 => first | (intro w hSw; (try dsimp only at hSw); go_simp; done) | (intro w hSw; (try dsimp only at hSw); go_simp; with_reducible rfl)
          (try simp only [Act.put, List.setIfInBounds_toArray, List.set_cons_zero, List.set_cons_succ])
          refine wpAnyH_take (i := 5) (oi := { dst := some 71, op := Go.Op.move (Go.Operand.tmp 3), type := 23, pos := "laws.go:1415", after := #[], guard := none }) (v := ?vu1x5) rfl (by kernel_rfl) (by kernel_rfl) (by kernel_rfl) (fun _ _ _ h => h) (Or.inl ⟨by rfl, ?hyu1x5⟩) hHeld0 ?restu1x5
          case hyu1x5 => first | (intro w hSw; (try dsimp only at hSw); go_simp; done) | (intro w hSw; (try dsimp only at hSw); go_simp; with_reducible rfl)
          (try simp only [Act.put, List.setIfInBounds_toArray, List.set_cons_zero, List.set_cons_succ])
          refine wpAnyH_take (i := 6) (oi := { dst := some 72, op := Go.Op.move (Go.Operand.tmp 4), type := 3, pos := "laws.go:1415", after := #[], guard := none }) (v := ?vu1x6) rfl (by kernel_rfl) (by kernel_rfl) (by kernel_rfl) (fun _ _ _ h => h) (Or.inl ⟨by rfl, ?hyu1x6⟩) hHeld0 ?restu1x6
          case hyu1x6 => first | (intro w hSw; (try dsimp only at hSw); go_simp; done) | (intro w hSw; (try dsimp only at hSw); go_simp; with_reducible rfl)
          (try simp only [Act.put, List.setIfInBounds_toArray, List.set_cons_zero, List.set_cons_succ])
          refine wpAnyH_take (i := 7) (oi := { dst := some 73, op := Go.Op.indexAddr 23 (Go.Operand.tmp 71) (Go.Operand.tmp 72), type := 0, pos := "laws.go:1415", after := #[{ on := 5, ground := Go.Ground.data }, { on := 6, ground := Go.Ground.data }], guard := none }) (v := ?vu1x7) rfl (by kernel_rfl) (by kernel_rfl) (by kernel_rfl) (fun _ _ _ h => h) (Or.inl ⟨by rfl, ?hyu1x7⟩) hHeld0 ?restu1x7
          case hyu1x7 => first | (intro w hSw; (try dsimp only at hSw); go_simp; done) | (intro w hSw; (try dsimp only at hSw); go_simp; with_reducible rfl)
          (try simp only [Act.put, List.setIfInBounds_toArray, List.set_cons_zero, List.set_cons_succ])
          refine wpAnyH_take (i := 8) (oi := { dst := some 74, op := Go.Op.fieldAddr 40 (Go.Operand.tmp 73) 4, type := 0, pos := "laws.go:1415", after := #[{ on := 7, ground := Go.Ground.data }], guard := none }) (v := ?vu1x8) rfl (by kernel_rfl) (by kernel_rfl) (by kernel_rfl) (fun _ _ _ h => h) (Or.inl ⟨by rfl, ?hyu1x8⟩) hHeld0 ?restu1x8
          case hyu1x8 => first | (intro w hSw; (try dsimp only at hSw); go_simp; done) | (intro w hSw; (try dsimp only at hSw); go_simp; with_reducible rfl)
          (try simp only [Act.put, List.setIfInBounds_toArray, List.set_cons_zero, List.set_cons_succ])
          refine wpAnyH_take (i := 9) (oi := { dst := some 75, op := Go.Op.load 4 (Go.Operand.tmp 74), type := 4, pos := "laws.go:1415", after := #[{ on := 8, ground := Go.Ground.data }], guard := none }) (v := ?vu1x9) rfl (by kernel_rfl) (by kernel_rfl) (by kernel_rfl) (fun _ _ _ h => h) (Or.inl ⟨by rfl, ?hyu1x9⟩) hHeld0 ?restu1x9
          case hyu1x9 => first | (intro w hSw; (try dsimp only at hSw); go_simp; done) | (intro w hSw; (try dsimp only at hSw); go_simp; with_reducible rfl)
          (try simp only [Act.put, List.setIfInBounds_toArray, List.set_cons_zero, List.set_cons_succ])
          refine wpAnyH_take (i := 10) (oi := { dst := some 76, op := Go.Op.binOp Go.BinOp.eql 4 (Go.Operand.tmp 70) (Go.Operand.tmp 75) 4, type := 4, pos := "laws.go:1415", after := #[{ on := 4, ground := Go.Ground.data }, { on := 9, ground := Go.Ground.data }], guard := none }) (v := ?vu1x10) rfl (by kernel_rfl) (by kernel_rfl) (by kernel_rfl) (fun _ _ _ h => h) (Or.inl ⟨by rfl, ?hyu1x10⟩) hHeld0 ?restu1x10
          case hyu1x10 => first | (intro w hSw; (try dsimp only at hSw); go_simp; done) | (intro w hSw; (try dsimp only at hSw); go_simp; with_reducible rfl)
          (try simp only [Act.put, List.setIfInBounds_toArray, List.set_cons_zero, List.set_cons_succ])
          refine wpAnyH_take (i := 11) (oi := { dst := some 77, op := Go.Op.move (Go.Operand.tmp 76), type := 4, pos := "laws.go:1415", after := #[{ on := 10, ground := Go.Ground.data }], guard := none }) (v := ?vu1x11) rfl (by kernel_rfl) (by kernel_rfl) (by kernel_rfl) (fun _ _ _ h => h) (Or.inl ⟨by rfl, ?hyu1x11⟩) hHeld0 ?restu1x11
          case hyu1x11 => first | (intro w hSw; (try dsimp only at hSw); go_simp; done) | (intro w hSw; (try dsimp only at hSw); go_simp; with_reducible rfl)
          (try simp only [Act.put, List.setIfInBounds_toArray, List.set_cons_zero, List.set_cons_succ])
          refine wpAnyH_take (i := 12) (oi := { dst := some 78, op := Go.Op.move (Go.Operand.tmp 3), type := 23, pos := "laws.go:1415", after := #[{ on := 11, ground := Go.Ground.guard }], guard := some (11, true) }) (v := undef) rfl (by kernel_rfl) (by kernel_rfl) (by kernel_rfl) (fun _ _ _ h => h) (Or.inr ⟨by rfl, by rfl⟩) hHeld0 ?_
          (try simp only [Act.put, List.setIfInBounds_toArray, List.set_cons_zero, List.set_cons_succ])
          refine wpAnyH_take (i := 13) (oi := { dst := some 79, op := Go.Op.move (Go.Operand.tmp 9), type := 3, pos := "laws.go:1415", after := #[{ on := 11, ground := Go.Ground.guard }], guard := some (11, true) }) (v := undef) rfl (by kernel_rfl) (by kernel_rfl) (by kernel_rfl) (fun _ _ _ h => h) (Or.inr ⟨by rfl, by rfl⟩) hHeld0 ?_
          (try simp only [Act.put, List.setIfInBounds_toArray, List.set_cons_zero, List.set_cons_succ])
          refine wpAnyH_take (i := 14) (oi := { dst := some 80, op := Go.Op.indexAddr 23 (Go.Operand.tmp 78) (Go.Operand.tmp 79), type := 0, pos := "laws.go:1415", after := #[{ on := 12, ground := Go.Ground.data }, { on := 13, ground := Go.Ground.data }, { on := 11, ground := Go.Ground.guard }], guard := some (11, true) }) (v := undef) rfl (by kernel_rfl) (by kernel_rfl) (by kernel_rfl) (fun _ _ _ h => h) (Or.inr ⟨by rfl, by rfl⟩) hHeld0 ?_
          (try simp only [Act.put, List.setIfInBounds_toArray, List.set_cons_zero, List.set_cons_succ])
          refine wpAnyH_take (i := 15) (oi := { dst := some 81, op := Go.Op.fieldAddr 40 (Go.Operand.tmp 80) 2, type := 0, pos := "laws.go:1415", after := #[{ on := 14, ground := Go.Ground.data }, { on := 11, ground := Go.Ground.guard }], guard := some (11, true) }) (v := undef) rfl (by kernel_rfl) (by kernel_rfl) (by kernel_rfl) (fun _ _ _ h => h) (Or.inr ⟨by rfl, by rfl⟩) hHeld0 ?_
          (try simp only [Act.put, List.setIfInBounds_toArray, List.set_cons_zero, List.set_cons_succ])
          refine wpAnyH_take (i := 16) (oi := { dst := some 82, op := Go.Op.load 3 (Go.Operand.tmp 81), type := 3, pos := "laws.go:1415", after := #[{ on := 15, ground := Go.Ground.data }, { on := 11, ground := Go.Ground.guard }], guard := some (11, true) }) (v := undef) rfl (by kernel_rfl) (by kernel_rfl) (by kernel_rfl) (fun _ _ _ h => h) (Or.inr ⟨by rfl, by rfl⟩) hHeld0 ?_
          (try simp only [Act.put, List.setIfInBounds_toArray, List.set_cons_zero, List.set_cons_succ])
          refine wpAnyH_take (i := 17) (oi := { dst := some 83, op := Go.Op.move (Go.Operand.tmp 3), type := 23, pos := "laws.go:1415", after := #[{ on := 11, ground := Go.Ground.guard }], guard := some (11, true) }) (v := undef) rfl (by kernel_rfl) (by kernel_rfl) (by kernel_rfl) (fun _ _ _ h => h) (Or.inr ⟨by rfl, by rfl⟩) hHeld0 ?_
          (try simp only [Act.put, List.setIfInBounds_toArray, List.set_cons_zero, List.set_cons_succ])
          refine wpAnyH_take (i := 18) (oi := { dst := some 84, op := Go.Op.move (Go.Operand.tmp 4), type := 3, pos := "laws.go:1415", after := #[{ on := 11, ground := Go.Ground.guard }], guard := some (11, true) }) (v := undef) rfl (by kernel_rfl) (by kernel_rfl) (by kernel_rfl) (fun _ _ _ h => h) (Or.inr ⟨by rfl, by rfl⟩) hHeld0 ?_
          (try simp only [Act.put, List.setIfInBounds_toArray, List.set_cons_zero, List.set_cons_succ])
          refine wpAnyH_take (i := 19) (oi := { dst := some 85, op := Go.Op.indexAddr 23 (Go.Operand.tmp 83) (Go.Operand.tmp 84), type := 0, pos := "laws.go:1415", after := #[{ on := 17, ground := Go.Ground.data }, { on := 18, ground := Go.Ground.data }, { on := 11, ground := Go.Ground.guard }], guard := some (11, true) }) (v := undef) rfl (by kernel_rfl) (by kernel_rfl) (by kernel_rfl) (fun _ _ _ h => h) (Or.inr ⟨by rfl, by rfl⟩) hHeld0 ?_
          (try simp only [Act.put, List.setIfInBounds_toArray, List.set_cons_zero, List.set_cons_succ])
          refine wpAnyH_take (i := 20) (oi := { dst := some 86, op := Go.Op.fieldAddr 40 (Go.Operand.tmp 85) 2, type := 0, pos := "laws.go:1415", after := #[{ on := 19, ground := Go.Ground.data }, { on := 11, ground := Go.Ground.guard }], guard := some (11, true) }) (v := undef) rfl (by kernel_rfl) (by kernel_rfl) (by kernel_rfl) (fun _ _ _ h => h) (Or.inr ⟨by rfl, by rfl⟩) hHeld0 ?_
          (try simp only [Act.put, List.setIfInBounds_toArray, List.set_cons_zero, List.set_cons_succ])
          refine wpAnyH_take (i := 21) (oi := { dst := some 87, op := Go.Op.load 3 (Go.Operand.tmp 86), type := 3, pos := "laws.go:1415", after := #[{ on := 20, ground := Go.Ground.data }, { on := 11, ground := Go.Ground.guard }], guard := some (11, true) }) (v := undef) rfl (by kernel_rfl) (by kernel_rfl) (by kernel_rfl) (fun _ _ _ h => h) (Or.inr ⟨by rfl, by rfl⟩) hHeld0 ?_
          (try simp only [Act.put, List.setIfInBounds_toArray, List.set_cons_zero, List.set_cons_succ])
          refine wpAnyH_take (i := 22) (oi := { dst := some 88, op := Go.Op.binOp Go.BinOp.lss 3 (Go.Operand.tmp 82) (Go.Operand.tmp 87) 3, type := 4, pos := "laws.go:1415", after := #[{ on := 16, ground := Go.Ground.data }, { on := 21, ground := Go.Ground.data }, { on := 11, ground := Go.Ground.guard }], guard := some (11, true) }) (v := undef) rfl (by kernel_rfl) (by kernel_rfl) (by kernel_rfl) (fun _ _ _ h => h) (Or.inr ⟨by rfl, by rfl⟩) hHeld0 ?_
          (try simp only [Act.put, List.setIfInBounds_toArray, List.set_cons_zero, List.set_cons_succ])
          refine wpAnyH_take (i := 23) (oi := { dst := some 89, op := Go.Op.load 27 (Go.Operand.tmp 10), type := 27, pos := "laws.go:1415", after := #[{ on := 11, ground := Go.Ground.guard }], guard := some (11, true) }) (v := undef) rfl (by kernel_rfl) (by kernel_rfl) (by kernel_rfl) (fun _ _ _ h => h) (Or.inr ⟨by rfl, by rfl⟩) hHeld0 ?_
          (try simp only [Act.put, List.setIfInBounds_toArray, List.set_cons_zero, List.set_cons_succ])
          refine wpAnyH_take (i := 24) (oi := { dst := some 90, op := Go.Op.load 27 (Go.Operand.tmp 5), type := 27, pos := "laws.go:1415", after := #[{ on := 11, ground := Go.Ground.guard }], guard := some (11, true) }) (v := undef) rfl (by kernel_rfl) (by kernel_rfl) (by kernel_rfl) (fun _ _ _ h => h) (Or.inr ⟨by rfl, by rfl⟩) hHeld0 ?_
          (try simp only [Act.put, List.setIfInBounds_toArray, List.set_cons_zero, List.set_cons_succ])
          refine wpAnyH_take (i := 25) (oi := { dst := some 91, op := Go.Op.call { callee := Go.Callee.value (Go.Operand.func 21), args := #[Go.Operand.tmp 89, Go.Operand.tmp 90], argTypes := #[27, 27] }, type := 3, pos := "laws.go:1415", after := #[{ on := 23, ground := Go.Ground.data }, { on := 24, ground := Go.Ground.data }, { on := 11, ground := Go.Ground.chain }, { on := 11, ground := Go.Ground.guard }], guard := some (11, true) }) (v := undef) rfl (by kernel_rfl) (by kernel_rfl) (by kernel_rfl) (fun _ _ _ h => h) (Or.inr ⟨by rfl, by rfl⟩) hHeld0 ?_
          (try simp only [Act.put, List.setIfInBounds_toArray, List.set_cons_zero, List.set_cons_succ])
          refine wpAnyH_take (i := 26) (oi := { dst := some 92, op := Go.Op.binOp Go.BinOp.lss 3 (Go.Operand.tmp 91) (Go.Operand.const (Go.Value.int Go.IntKind.i64 0)) 3, type := 4, pos := "laws.go:1415", after := #[{ on := 25, ground := Go.Ground.data }, { on := 11, ground := Go.Ground.guard }], guard := some (11, true) }) (v := undef) rfl (by kernel_rfl) (by kernel_rfl) (by kernel_rfl) (fun _ _ _ h => h) (Or.inr ⟨by rfl, by rfl⟩) hHeld0 ?_
          (try simp only [Act.put, List.setIfInBounds_toArray, List.set_cons_zero, List.set_cons_succ])
          refine wpAnyH_take (i := 27) (oi := { dst := some 93, op := Go.Op.binOp Go.BinOp.neq 4 (Go.Operand.tmp 88) (Go.Operand.tmp 92) 4, type := 4, pos := "laws.go:1415", after := #[{ on := 22, ground := Go.Ground.data }, { on := 26, ground := Go.Ground.data }, { on := 11, ground := Go.Ground.guard }], guard := some (11, true) }) (v := undef) rfl (by kernel_rfl) (by kernel_rfl) (by kernel_rfl) (fun _ _ _ h => h) (Or.inr ⟨by rfl, by rfl⟩) hHeld0 ?_
          (try simp only [Act.put, List.setIfInBounds_toArray, List.set_cons_zero, List.set_cons_succ])
          refine wpAnyH_take (i := 28) (oi := { dst := some 94, op := Go.Op.pick (Go.Operand.tmp 77) (Go.Operand.tmp 93) (Go.Operand.const (Go.Value.bool false)), type := 4, pos := "laws.go:1415", after := #[{ on := 11, ground := Go.Ground.data }, { on := 27, ground := Go.Ground.data }], guard := none }) (v := ?vu1x28) rfl (by kernel_rfl) (by kernel_rfl) (by kernel_rfl) (fun _ _ _ h => h) (Or.inl ⟨by rfl, ?hyu1x28⟩) hHeld0 ?restu1x28
          case hyu1x28 => first | (intro w hSw; (try dsimp only at hSw); go_simp; done) | (intro w hSw; (try dsimp only at hSw); go_simp; with_reducible rfl)
          (try simp only [Act.put, List.setIfInBounds_toArray, List.set_cons_zero, List.set_cons_succ])
          refine wpAnyH_done (by kernel_rfl) ?_ _
          have cx := fun o0 => (bx11.out.alloc o0).cell
          go_wp2
          (try (go_quiet (fail); go_wp2))
          go_roundw
          case rel => exact ⟨j + 1, by omega, by go_num, Lib.hid (by repeat (first | with_reducible exact bx11.out | with_reducible refine Blk.drewN ?_ _ | with_reducible refine Blk.drew ?_ | with_reducible refine Blk.alloc ?_ _ | with_reducible refine bl_drewN ?_ _ | with_reducible refine Below.drew ?_ | with_reducible refine bl_alloc ?_ _)), Lib.hid (by repeat (first | with_reducible exact HB11.out | with_reducible refine Blk.drewN ?_ _ | with_reducible refine Blk.drew ?_ | with_reducible refine Blk.alloc ?_ _ | with_reducible refine bl_drewN ?_ _ | with_reducible refine Below.drew ?_ | with_reducible refine bl_alloc ?_ _)), Lib.hid (by repeat (first | with_reducible exact HDt11.out | with_reducible refine Blk.drewN ?_ _ | with_reducible refine Blk.drew ?_ | with_reducible refine Blk.alloc ?_ _ | with_reducible refine bl_drewN ?_ _ | with_reducible refine Below.drew ?_ | with_reducible refine bl_alloc ?_ _))⟩
          case measure => simp [intOf]; omega
        · skip
          have cx := fun o0 => (bx11.out.alloc o0).cell
          have hS := (And.intro ((World.cell?_alloc_lt w11 (.cells #[.int .i64 (P2 : Int), .int .i64 (Q2 : Int)] 27) ⟨gg, k * 5 + 4, none⟩ hbl2).trans HX.out.2.1) ((World.cell?_alloc_lt w11 (.cells #[.int .i64 (P2 : Int), .int .i64 (Q2 : Int)] 27) ⟨gg, j * 5 + 4, none⟩ hbl2).trans HX.out.2.2.2))
          go_wp2_with fail
          refine wp_region_held_drew (S := (fun W => (W.cell? ⟨gg, k * 5 + 4, none⟩ = some (.bool false)) ∧ (W.cell? ⟨gg, j * 5 + 4, none⟩ = some (.bool true)))) (by kernel_rfl) (by exact hS) (fun hHeld0 => ?_)
          refine wpAnyH_take (i := 0) (oi := { dst := some 66, op := Go.Op.move (Go.Operand.tmp 3), type := 23, pos := "laws.go:1415", after := #[], guard := none }) (v := ?vu2x0) rfl (by kernel_rfl) (by kernel_rfl) (by kernel_rfl) (fun _ _ _ h => h) (Or.inl ⟨by rfl, ?hyu2x0⟩) hHeld0 ?restu2x0
          case hyu2x0 => first | (intro w hSw; (try dsimp only at hSw); go_simp; done) | (intro w hSw; (try dsimp only at hSw); go_simp; with_reducible rfl)
          (try simp only [Act.put, List.setIfInBounds_toArray, List.set_cons_zero, List.set_cons_succ])
          refine wpAnyH_take (i := 1) (oi := { dst := some 67, op := Go.Op.move (Go.Operand.tmp 9), type := 3, pos := "laws.go:1415", after := #[], guard := none }) (v := ?vu2x1) rfl (by kernel_rfl) (by kernel_rfl) (by kernel_rfl) (fun _ _ _ h => h) (Or.inl ⟨by rfl, ?hyu2x1⟩) hHeld0 ?restu2x1
          case hyu2x1 => first | (intro w hSw; (try dsimp only at hSw); go_simp; done) | (intro w hSw; (try dsimp only at hSw); go_simp; with_reducible rfl)
          (try simp only [Act.put, List.setIfInBounds_toArray, List.set_cons_zero, List.set_cons_succ])
          refine wpAnyH_take (i := 2) (oi := { dst := some 68, op := Go.Op.indexAddr 23 (Go.Operand.tmp 66) (Go.Operand.tmp 67), type := 0, pos := "laws.go:1415", after := #[{ on := 0, ground := Go.Ground.data }, { on := 1, ground := Go.Ground.data }], guard := none }) (v := ?vu2x2) rfl (by kernel_rfl) (by kernel_rfl) (by kernel_rfl) (fun _ _ _ h => h) (Or.inl ⟨by rfl, ?hyu2x2⟩) hHeld0 ?restu2x2
          case hyu2x2 => first | (intro w hSw; (try dsimp only at hSw); go_simp; done) | (intro w hSw; (try dsimp only at hSw); go_simp; with_reducible rfl)
          (try simp only [Act.put, List.setIfInBounds_toArray, List.set_cons_zero, List.set_cons_succ])
          refine wpAnyH_take (i := 3) (oi := { dst := some 69, op := Go.Op.fieldAddr 40 (Go.Operand.tmp 68) 4, type := 0, pos := "laws.go:1415", after := #[{ on := 2, ground := Go.Ground.data }], guard := none }) (v := ?vu2x3) rfl (by kernel_rfl) (by kernel_rfl) (by kernel_rfl) (fun _ _ _ h => h) (Or.inl ⟨by rfl, ?hyu2x3⟩) hHeld0 ?restu2x3
          case hyu2x3 => first | (intro w hSw; (try dsimp only at hSw); go_simp; done) | (intro w hSw; (try dsimp only at hSw); go_simp; with_reducible rfl)
          (try simp only [Act.put, List.setIfInBounds_toArray, List.set_cons_zero, List.set_cons_succ])
          refine wpAnyH_take (i := 4) (oi := { dst := some 70, op := Go.Op.load 4 (Go.Operand.tmp 69), type := 4, pos := "laws.go:1415", after := #[{ on := 3, ground := Go.Ground.data }], guard := none }) (v := ?vu2x4) rfl (by kernel_rfl) (by kernel_rfl) (by kernel_rfl) (fun _ _ _ h => h) (Or.inl ⟨by rfl, ?hyu2x4⟩) hHeld0 ?restu2x4
          case hyu2x4 => first | (intro w hSw; (try dsimp only at hSw); go_simp; done) | (intro w hSw; (try dsimp only at hSw); go_simp; with_reducible rfl)
          (try simp only [Act.put, List.setIfInBounds_toArray, List.set_cons_zero, List.set_cons_succ])
          refine wpAnyH_take (i := 5) (oi := { dst := some 71, op := Go.Op.move (Go.Operand.tmp 3), type := 23, pos := "laws.go:1415", after := #[], guard := none }) (v := ?vu2x5) rfl (by kernel_rfl) (by kernel_rfl) (by kernel_rfl) (fun _ _ _ h => h) (Or.inl ⟨by rfl, ?hyu2x5⟩) hHeld0 ?restu2x5
          case hyu2x5 => first | (intro w hSw; (try dsimp only at hSw); go_simp; done) | (intro w hSw; (try dsimp only at hSw); go_simp; with_reducible rfl)
          (try simp only [Act.put, List.setIfInBounds_toArray, List.set_cons_zero, List.set_cons_succ])
          refine wpAnyH_take (i := 6) (oi := { dst := some 72, op := Go.Op.move (Go.Operand.tmp 4), type := 3, pos := "laws.go:1415", after := #[], guard := none }) (v := ?vu2x6) rfl (by kernel_rfl) (by kernel_rfl) (by kernel_rfl) (fun _ _ _ h => h) (Or.inl ⟨by rfl, ?hyu2x6⟩) hHeld0 ?restu2x6
          case hyu2x6 => first | (intro w hSw; (try dsimp only at hSw); go_simp; done) | (intro w hSw; (try dsimp only at hSw); go_simp; with_reducible rfl)
          (try simp only [Act.put, List.setIfInBounds_toArray, List.set_cons_zero, List.set_cons_succ])
          refine wpAnyH_take (i := 7) (oi := { dst := some 73, op := Go.Op.indexAddr 23 (Go.Operand.tmp 71) (Go.Operand.tmp 72), type := 0, pos := "laws.go:1415", after := #[{ on := 5, ground := Go.Ground.data }, { on := 6, ground := Go.Ground.data }], guard := none }) (v := ?vu2x7) rfl (by kernel_rfl) (by kernel_rfl) (by kernel_rfl) (fun _ _ _ h => h) (Or.inl ⟨by rfl, ?hyu2x7⟩) hHeld0 ?restu2x7
          case hyu2x7 => first | (intro w hSw; (try dsimp only at hSw); go_simp; done) | (intro w hSw; (try dsimp only at hSw); go_simp; with_reducible rfl)
          (try simp only [Act.put, List.setIfInBounds_toArray, List.set_cons_zero, List.set_cons_succ])
          refine wpAnyH_take (i := 8) (oi := { dst := some 74, op := Go.Op.fieldAddr 40 (Go.Operand.tmp 73) 4, type := 0, pos := "laws.go:1415", after := #[{ on := 7, ground := Go.Ground.data }], guard := none }) (v := ?vu2x8) rfl (by kernel_rfl) (by kernel_rfl) (by kernel_rfl) (fun _ _ _ h => h) (Or.inl ⟨by rfl, ?hyu2x8⟩) hHeld0 ?restu2x8
          case hyu2x8 => first | (intro w hSw; (try dsimp only at hSw); go_simp; done) | (intro w hSw; (try dsimp only at hSw); go_simp; with_reducible rfl)
          (try simp only [Act.put, List.setIfInBounds_toArray, List.set_cons_zero, List.set_cons_succ])
          refine wpAnyH_take (i := 9) (oi := { dst := some 75, op := Go.Op.load 4 (Go.Operand.tmp 74), type := 4, pos := "laws.go:1415", after := #[{ on := 8, ground := Go.Ground.data }], guard := none }) (v := ?vu2x9) rfl (by kernel_rfl) (by kernel_rfl) (by kernel_rfl) (fun _ _ _ h => h) (Or.inl ⟨by rfl, ?hyu2x9⟩) hHeld0 ?restu2x9
          case hyu2x9 => first | (intro w hSw; (try dsimp only at hSw); go_simp; done) | (intro w hSw; (try dsimp only at hSw); go_simp; with_reducible rfl)
          (try simp only [Act.put, List.setIfInBounds_toArray, List.set_cons_zero, List.set_cons_succ])
          refine wpAnyH_take (i := 10) (oi := { dst := some 76, op := Go.Op.binOp Go.BinOp.eql 4 (Go.Operand.tmp 70) (Go.Operand.tmp 75) 4, type := 4, pos := "laws.go:1415", after := #[{ on := 4, ground := Go.Ground.data }, { on := 9, ground := Go.Ground.data }], guard := none }) (v := ?vu2x10) rfl (by kernel_rfl) (by kernel_rfl) (by kernel_rfl) (fun _ _ _ h => h) (Or.inl ⟨by rfl, ?hyu2x10⟩) hHeld0 ?restu2x10
          case hyu2x10 => first | (intro w hSw; (try dsimp only at hSw); go_simp; done) | (intro w hSw; (try dsimp only at hSw); go_simp; with_reducible rfl)
          (try simp only [Act.put, List.setIfInBounds_toArray, List.set_cons_zero, List.set_cons_succ])
          refine wpAnyH_take (i := 11) (oi := { dst := some 77, op := Go.Op.move (Go.Operand.tmp 76), type := 4, pos := "laws.go:1415", after := #[{ on := 10, ground := Go.Ground.data }], guard := none }) (v := ?vu2x11) rfl (by kernel_rfl) (by kernel_rfl) (by kernel_rfl) (fun _ _ _ h => h) (Or.inl ⟨by rfl, ?hyu2x11⟩) hHeld0 ?restu2x11
          case hyu2x11 => first | (intro w hSw; (try dsimp only at hSw); go_simp; done) | (intro w hSw; (try dsimp only at hSw); go_simp; with_reducible rfl)
          (try simp only [Act.put, List.setIfInBounds_toArray, List.set_cons_zero, List.set_cons_succ])
          refine wpAnyH_take (i := 12) (oi := { dst := some 78, op := Go.Op.move (Go.Operand.tmp 3), type := 23, pos := "laws.go:1415", after := #[{ on := 11, ground := Go.Ground.guard }], guard := some (11, true) }) (v := undef) rfl (by kernel_rfl) (by kernel_rfl) (by kernel_rfl) (fun _ _ _ h => h) (Or.inr ⟨by rfl, by rfl⟩) hHeld0 ?_
          (try simp only [Act.put, List.setIfInBounds_toArray, List.set_cons_zero, List.set_cons_succ])
          refine wpAnyH_take (i := 13) (oi := { dst := some 79, op := Go.Op.move (Go.Operand.tmp 9), type := 3, pos := "laws.go:1415", after := #[{ on := 11, ground := Go.Ground.guard }], guard := some (11, true) }) (v := undef) rfl (by kernel_rfl) (by kernel_rfl) (by kernel_rfl) (fun _ _ _ h => h) (Or.inr ⟨by rfl, by rfl⟩) hHeld0 ?_
          (try simp only [Act.put, List.setIfInBounds_toArray, List.set_cons_zero, List.set_cons_succ])
          refine wpAnyH_take (i := 14) (oi := { dst := some 80, op := Go.Op.indexAddr 23 (Go.Operand.tmp 78) (Go.Operand.tmp 79), type := 0, pos := "laws.go:1415", after := #[{ on := 12, ground := Go.Ground.data }, { on := 13, ground := Go.Ground.data }, { on := 11, ground := Go.Ground.guard }], guard := some (11, true) }) (v := undef) rfl (by kernel_rfl) (by kernel_rfl) (by kernel_rfl) (fun _ _ _ h => h) (Or.inr ⟨by rfl, by rfl⟩) hHeld0 ?_
          (try simp only [Act.put, List.setIfInBounds_toArray, List.set_cons_zero, List.set_cons_succ])
          refine wpAnyH_take (i := 15) (oi := { dst := some 81, op := Go.Op.fieldAddr 40 (Go.Operand.tmp 80) 2, type := 0, pos := "laws.go:1415", after := #[{ on := 14, ground := Go.Ground.data }, { on := 11, ground := Go.Ground.guard }], guard := some (11, true) }) (v := undef) rfl (by kernel_rfl) (by kernel_rfl) (by kernel_rfl) (fun _ _ _ h => h) (Or.inr ⟨by rfl, by rfl⟩) hHeld0 ?_
          (try simp only [Act.put, List.setIfInBounds_toArray, List.set_cons_zero, List.set_cons_succ])
          refine wpAnyH_take (i := 16) (oi := { dst := some 82, op := Go.Op.load 3 (Go.Operand.tmp 81), type := 3, pos := "laws.go:1415", after := #[{ on := 15, ground := Go.Ground.data }, { on := 11, ground := Go.Ground.guard }], guard := some (11, true) }) (v := undef) rfl (by kernel_rfl) (by kernel_rfl) (by kernel_rfl) (fun _ _ _ h => h) (Or.inr ⟨by rfl, by rfl⟩) hHeld0 ?_
          (try simp only [Act.put, List.setIfInBounds_toArray, List.set_cons_zero, List.set_cons_succ])
          refine wpAnyH_take (i := 17) (oi := { dst := some 83, op := Go.Op.move (Go.Operand.tmp 3), type := 23, pos := "laws.go:1415", after := #[{ on := 11, ground := Go.Ground.guard }], guard := some (11, true) }) (v := undef) rfl (by kernel_rfl) (by kernel_rfl) (by kernel_rfl) (fun _ _ _ h => h) (Or.inr ⟨by rfl, by rfl⟩) hHeld0 ?_
          (try simp only [Act.put, List.setIfInBounds_toArray, List.set_cons_zero, List.set_cons_succ])
          refine wpAnyH_take (i := 18) (oi := { dst := some 84, op := Go.Op.move (Go.Operand.tmp 4), type := 3, pos := "laws.go:1415", after := #[{ on := 11, ground := Go.Ground.guard }], guard := some (11, true) }) (v := undef) rfl (by kernel_rfl) (by kernel_rfl) (by kernel_rfl) (fun _ _ _ h => h) (Or.inr ⟨by rfl, by rfl⟩) hHeld0 ?_
          (try simp only [Act.put, List.setIfInBounds_toArray, List.set_cons_zero, List.set_cons_succ])
          refine wpAnyH_take (i := 19) (oi := { dst := some 85, op := Go.Op.indexAddr 23 (Go.Operand.tmp 83) (Go.Operand.tmp 84), type := 0, pos := "laws.go:1415", after := #[{ on := 17, ground := Go.Ground.data }, { on := 18, ground := Go.Ground.data }, { on := 11, ground := Go.Ground.guard }], guard := some (11, true) }) (v := undef) rfl (by kernel_rfl) (by kernel_rfl) (by kernel_rfl) (fun _ _ _ h => h) (Or.inr ⟨by rfl, by rfl⟩) hHeld0 ?_
          (try simp only [Act.put, List.setIfInBounds_toArray, List.set_cons_zero, List.set_cons_succ])
          refine wpAnyH_take (i := 20) (oi := { dst := some 86, op := Go.Op.fieldAddr 40 (Go.Operand.tmp 85) 2, type := 0, pos := "laws.go:1415", after := #[{ on := 19, ground := Go.Ground.data }, { on := 11, ground := Go.Ground.guard }], guard := some (11, true) }) (v := undef) rfl (by kernel_rfl) (by kernel_rfl) (by kernel_rfl) (fun _ _ _ h => h) (Or.inr ⟨by rfl, by rfl⟩) hHeld0 ?_
          (try simp only [Act.put, List.setIfInBounds_toArray, List.set_cons_zero, List.set_cons_succ])
          refine wpAnyH_take (i := 21) (oi := { dst := some 87, op := Go.Op.load 3 (Go.Operand.tmp 86), type := 3, pos := "laws.go:1415", after := #[{ on := 20, ground := Go.Ground.data }, { on := 11, ground := Go.Ground.guard }], guard := some (11, true) }) (v := undef) rfl (by kernel_rfl) (by kernel_rfl) (by kernel_rfl) (fun _ _ _ h => h) (Or.inr ⟨by rfl, by rfl⟩) hHeld0 ?_
          (try simp only [Act.put, List.setIfInBounds_toArray, List.set_cons_zero, List.set_cons_succ])
          refine wpAnyH_take (i := 22) (oi := { dst := some 88, op := Go.Op.binOp Go.BinOp.lss 3 (Go.Operand.tmp 82) (Go.Operand.tmp 87) 3, type := 4, pos := "laws.go:1415", after := #[{ on := 16, ground := Go.Ground.data }, { on := 21, ground := Go.Ground.data }, { on := 11, ground := Go.Ground.guard }], guard := some (11, true) }) (v := undef) rfl (by kernel_rfl) (by kernel_rfl) (by kernel_rfl) (fun _ _ _ h => h) (Or.inr ⟨by rfl, by rfl⟩) hHeld0 ?_
          (try simp only [Act.put, List.setIfInBounds_toArray, List.set_cons_zero, List.set_cons_succ])
          refine wpAnyH_take (i := 23) (oi := { dst := some 89, op := Go.Op.load 27 (Go.Operand.tmp 10), type := 27, pos := "laws.go:1415", after := #[{ on := 11, ground := Go.Ground.guard }], guard := some (11, true) }) (v := undef) rfl (by kernel_rfl) (by kernel_rfl) (by kernel_rfl) (fun _ _ _ h => h) (Or.inr ⟨by rfl, by rfl⟩) hHeld0 ?_
          (try simp only [Act.put, List.setIfInBounds_toArray, List.set_cons_zero, List.set_cons_succ])
          refine wpAnyH_take (i := 24) (oi := { dst := some 90, op := Go.Op.load 27 (Go.Operand.tmp 5), type := 27, pos := "laws.go:1415", after := #[{ on := 11, ground := Go.Ground.guard }], guard := some (11, true) }) (v := undef) rfl (by kernel_rfl) (by kernel_rfl) (by kernel_rfl) (fun _ _ _ h => h) (Or.inr ⟨by rfl, by rfl⟩) hHeld0 ?_
          (try simp only [Act.put, List.setIfInBounds_toArray, List.set_cons_zero, List.set_cons_succ])
          refine wpAnyH_take (i := 25) (oi := { dst := some 91, op := Go.Op.call { callee := Go.Callee.value (Go.Operand.func 21), args := #[Go.Operand.tmp 89, Go.Operand.tmp 90], argTypes := #[27, 27] }, type := 3, pos := "laws.go:1415", after := #[{ on := 23, ground := Go.Ground.data }, { on := 24, ground := Go.Ground.data }, { on := 11, ground := Go.Ground.chain }, { on := 11, ground := Go.Ground.guard }], guard := some (11, true) }) (v := undef) rfl (by kernel_rfl) (by kernel_rfl) (by kernel_rfl) (fun _ _ _ h => h) (Or.inr ⟨by rfl, by rfl⟩) hHeld0 ?_
          (try simp only [Act.put, List.setIfInBounds_toArray, List.set_cons_zero, List.set_cons_succ])
          refine wpAnyH_take (i := 26) (oi := { dst := some 92, op := Go.Op.binOp Go.BinOp.lss 3 (Go.Operand.tmp 91) (Go.Operand.const (Go.Value.int Go.IntKind.i64 0)) 3, type := 4, pos := "laws.go:1415", after := #[{ on := 25, ground := Go.Ground.data }, { on := 11, ground := Go.Ground.guard }], guard := some (11, true) }) (v := undef) rfl (by kernel_rfl) (by kernel_rfl) (by kernel_rfl) (fun _ _ _ h => h) (Or.inr ⟨by rfl, by rfl⟩) hHeld0 ?_
          (try simp only [Act.put, List.setIfInBounds_toArray, List.set_cons_zero, List.set_cons_succ])
          refine wpAnyH_take (i := 27) (oi := { dst := some 93, op := Go.Op.binOp Go.BinOp.neq 4 (Go.Operand.tmp 88) (Go.Operand.tmp 92) 4, type := 4, pos := "laws.go:1415", after := #[{ on := 22, ground := Go.Ground.data }, { on := 26, ground := Go.Ground.data }, { on := 11, ground := Go.Ground.guard }], guard := some (11, true) }) (v := undef) rfl (by kernel_rfl) (by kernel_rfl) (by kernel_rfl) (fun _ _ _ h => h) (Or.inr ⟨by rfl, by rfl⟩) hHeld0 ?_
          (try simp only [Act.put, List.setIfInBounds_toArray, List.set_cons_zero, List.set_cons_succ])
          refine wpAnyH_take (i := 28) (oi := { dst := some 94, op := Go.Op.pick (Go.Operand.tmp 77) (Go.Operand.tmp 93) (Go.Operand.const (Go.Value.bool false)), type := 4, pos := "laws.go:1415", after := #[{ on := 11, ground := Go.Ground.data }, { on := 27, ground := Go.Ground.data }], guard := none }) (v := ?vu2x28) rfl (by kernel_rfl) (by kernel_rfl) (by kernel_rfl) (fun _ _ _ h => h) (Or.inl ⟨by rfl, ?hyu2x28⟩) hHeld0 ?restu2x28
          case hyu2x28 => first | (intro w hSw; (try dsimp only at hSw); go_simp; done) | (intro w hSw; (try dsimp only at hSw); go_simp; with_reducible rfl)
          (try simp only [Act.put, List.setIfInBounds_toArray, List.set_cons_zero, List.set_cons_succ])
          refine wpAnyH_done (by kernel_rfl) ?_ _
          have cx := fun o0 => (bx11.out.alloc o0).cell
          go_wp2
          (try (go_quiet (fail); go_wp2))
          go_roundw
          case rel => exact ⟨j + 1, by omega, by go_num, Lib.hid (by repeat (first | with_reducible exact bx11.out | with_reducible refine Blk.drewN ?_ _ | with_reducible refine Blk.drew ?_ | with_reducible refine Blk.alloc ?_ _ | with_reducible refine bl_drewN ?_ _ | with_reducible refine Below.drew ?_ | with_reducible refine bl_alloc ?_ _)), Lib.hid (by repeat (first | with_reducible exact HB11.out | with_reducible refine Blk.drewN ?_ _ | with_reducible refine Blk.drew ?_ | with_reducible refine Blk.alloc ?_ _ | with_reducible refine bl_drewN ?_ _ | with_reducible refine Below.drew ?_ | with_reducible refine bl_alloc ?_ _)), Lib.hid (by repeat (first | with_reducible exact HDt11.out | with_reducible refine Blk.drewN ?_ _ | with_reducible refine Blk.drew ?_ | with_reducible refine Blk.alloc ?_ _ | with_reducible refine bl_drewN ?_ _ | with_reducible refine Below.drew ?_ | with_reducible refine bl_alloc ?_ _))⟩
          case measure => simp [intOf]; omega
        · exact absurd rfl hc
    · obtain rfl : j = m := by omega
      go_wp2
      go_ret
      exact ⟨rfl, by repeat (first | with_reducible exact HB10.out | refine bl_drewN ?_ _ | refine Below.drew ?_ | refine bl_alloc ?_ _)⟩

end Go.Proofs.YtpngfonnoepmfaaDoor
