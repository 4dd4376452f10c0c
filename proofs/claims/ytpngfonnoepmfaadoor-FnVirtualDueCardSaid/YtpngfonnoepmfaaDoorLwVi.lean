/- Walk of the law FnVirtualDue. -/
import Derived.Test.YtpngfonnoepmfaaDoorM6
import Derived.Test.YtpngfonnoepmfaaDoorM2
import Derived.Test.YtpngfonnoepmfaaDoorM8
import Derived.Test.YtpngfonnoepmfaaDoorM5
import Derived.Test.YtpngfonnoepmfaaDoorM3
import Derived.Deep.RegionWith
import Derived.Deep.RegionHeld3
namespace Go.Proofs.YtpngfonnoepmfaaDoor
open Go.RowKit
set_option linter.unusedVariables false

set_option maxRecDepth 100000 in
set_option maxHeartbeats 6000000 in
theorem fnVirtualDue_walk (w : World) (A : Option Addr) (n c : Nat) (f : Nat → Int) (h : Code w w.heap.size A n c f) (e0 : Addr) (he : EG w e0) :
    Calls Tryd.prog 5 #[.slice A n c] w fun e w' => e = .returned (.bool true) ∧ Below w.heap.size w w' := by
  have H := Lib.hid h
  have HE := Lib.hid he
  have hle := h.le
  have hmax := h.max
  unfold maxLen at hmax
  clear h he
  by_cases hn : 1048576 < n
  · go_enter Tryd.func5, Tryd.ntmps5
    go_wp2
    go_ret
    exact ⟨rfl, Below.refl _ _⟩
  go_enter Tryd.func5, Tryd.ntmps5
  go_wp2_with fail
  refine (dDrawVirtualDue_any _ A n c f H.out).mono ?_
  rintro e w1 ⟨At, ct, ts, a, rfl, hl, a0, a1, ho, hb⟩
  have HB1 := Lib.hid hb
  have HO := Lib.hid ho
  have HTt := Lib.hid ho.reads.2
  clear hb H ho
  have HDt1 := Lib.hid (Below.refl w1.heap.size w1)
  cases hd : dueB ts a
  · have hd0 := dueV_no hd
    go_wp2_with fail
    (try (go_quiet (fail); go_wp2_with fail))
    refine (iDue_is _ At _ ct ts ((HTt.out.below (by repeat (first | with_reducible exact HDt1.out | with_reducible refine Below.drew ?_ | with_reducible refine bl_drewN ?_ _ | with_reducible refine bl_alloc ?_ _) : Below w1.heap.size w1 _)).more (Below.size (by repeat (first | with_reducible exact HDt1.out | with_reducible refine Below.drew ?_ | with_reducible refine bl_drewN ?_ _ | with_reducible refine bl_alloc ?_ _) : Below w1.heap.size w1 _))) (by omega) e0 (by repeat (first | exact HE.out.below HB1.out | refine EG.drewN ?_ _ | refine EG.drew ?_ | refine EG.alloc ?_ _)) a 0 0 false hd0 hd).mono ?_
    rintro e w2 ⟨rfl, hb⟩
    have hs2 := hb.size
    have HB2 := Lib.hid (show Below w.heap.size w w2 from bl_trans (by repeat (first | with_reducible exact HB1.out | with_reducible refine bl_drewN ?_ _ | with_reducible refine Below.drew ?_ | with_reducible refine bl_alloc ?_ _)) hb)
    have HDt2 := Lib.hid (show Below w1.heap.size w1 w2 from bl_trans (by repeat (first | with_reducible exact HDt1.out | with_reducible refine Below.drew ?_ | with_reducible refine bl_drewN ?_ _ | with_reducible refine bl_alloc ?_ _)) hb)
    clear hb HB1 HDt1
    go_wp2_with fail
    (try (go_quiet (fail); go_wp2_with fail))
    refine (sDue_is _ At _ ct ts ((HTt.out.below (by repeat (first | with_reducible exact HDt2.out | with_reducible refine Below.drew ?_ | with_reducible refine bl_drewN ?_ _ | with_reducible refine bl_alloc ?_ _) : Below w1.heap.size w1 _)).more (Below.size (by repeat (first | with_reducible exact HDt2.out | with_reducible refine Below.drew ?_ | with_reducible refine bl_drewN ?_ _ | with_reducible refine bl_alloc ?_ _) : Below w1.heap.size w1 _))) (by omega) a 0 0 false hd0 hd).mono ?_
    rintro e w3 ⟨rfl, hb⟩
    have hs3 := hb.size
    have HB3 := Lib.hid (show Below w.heap.size w w3 from bl_trans (by repeat (first | with_reducible exact HB2.out | with_reducible refine bl_drewN ?_ _ | with_reducible refine Below.drew ?_ | with_reducible refine bl_alloc ?_ _)) hb)
    have bx3 := Lib.hid (show Blk w3 (w2.heap.size) 27 #[.int .i64 0, .int .i64 0] from Blk.below (by have hh := Blk.new w2 27 #[.int .i64 0, .int .i64 0]; (try simp only [World.size_alloc] at hh); repeat (first | exact hh | with_reducible refine Blk.drewN ?_ _ | with_reducible refine Blk.drew ?_ | with_reducible refine Blk.alloc ?_ _)) hb (by first | omega | (simp; done) | (simp; omega)))
    have HDt3 := Lib.hid (show Below w1.heap.size w1 w3 from bl_trans (by repeat (first | with_reducible exact HDt2.out | with_reducible refine Below.drew ?_ | with_reducible refine bl_drewN ?_ _ | with_reducible refine bl_alloc ?_ _)) hb)
    clear hb HB2 HDt2
    have cx := fun o0 => (bx3.out.alloc o0).cell
    go_wp2
    (try (go_quiet (fail); go_wp2))
    go_ret
    exact ⟨rfl, by repeat (first | with_reducible exact HB3.out | refine bl_drewN ?_ _ | refine Below.drew ?_ | refine bl_alloc ?_ _ | refine bl_set ?_ (by dsimp only; omega) _)⟩
  have hf : facB ts = true := by unfold dueB at hd; simp at hd; exact hd.1
  have hat : atB ts a = true := by unfold dueB at hd; simp at hd; exact hd.2
  have i1 : 0 ≤ a := by unfold atB at hat; simp at hat; exact hat.1
  have i2 : a < (ts.length : Int) := by unfold atB at hat; simp at hat; exact hat.2
  obtain ⟨k, rfl⟩ : ∃ k : Nat, a = (k : Int) := ⟨a.toNat, by omega⟩
  have hlt : k < ts.length := by omega
  obtain ⟨t, ht⟩ : ∃ t, ts[k]? = some t := ⟨ts[k], List.getElem?_eq_getElem hlt⟩
  obtain ⟨P, Q, hPQ⟩ : ∃ p q, dueV ts (k : Int) = (p, q) := ⟨_, _, rfl⟩
  have hdt : dueT ts t = (P, Q) := by rw [← dueV_at hf ht]; exact hPQ
  have hm := List.mem_of_getElem? ht
  have sh := dueT_sh hf hm
  have hle := due_le hf t
  rw [hdt] at sh hle
  dsimp only at sh
  obtain ⟨n1, n2, n3, n4⟩ := ok_nums (ok_of_set (imp_set (fac_imp hf)) hm)
  have hdu := imp_all (fac_imp hf) t hm
  obtain ⟨dn, hdn⟩ : ∃ dn : Nat, t.du = (dn : Int) := ⟨t.du.toNat, by omega⟩
  have hdt2 : t.du.toNat = dn := by omega
  have sd : Sh dn 1 := ⟨Nat.le_refl 1, by omega, by decide, Nat.gcd_one_right _⟩
  obtain ⟨z, hz⟩ : ∃ z, cmpS P Q dn 1 = z := ⟨_, rfl⟩
  have ez : z = cmpN (P, Q) (dn, 1) := by rw [← hz]; exact cmp_sh (c := dn) (d := 1) sh sd
  have hz0 : z ≤ 0 := by rw [ez]; rw [hdt2] at hle; exact (cmp_le _ _).2 hle
  have hd1 : decide (z ≤ 0) = true := by simp; exact hz0
  have hzc : t.cr = false → z = 0 := fun hc => by
    have := due_plain (ts := ts) hc
    rw [hdt, hdt2] at this
    rw [ez, this, cmp_self]
  have hmk : mkS dn 1 = (dn, 1) := by rw [show ((1 : Int)) = ((1 : Nat) : Int) from rfl, mkS_nat sd.num sd.pos sd.den]; exact sh_redN sd
  have hmb : mkB dn 1 = true := nat_mk (b := 1) sd.num sd.pos sd.den
  have HD := Lib.hid (And.intro hPQ hd)
  have HM := Lib.hid (And.intro hmk hmb)
  have HV := Lib.hid (of_sh sh)
  have HZ := Lib.hid hz
  have HTK := Lib.hid ht
  clear hPQ hd hdt sh hle hz ez hmk hmb hf hat hm n1 n2 n3 n4 hdu ht
  obtain ⟨lo, hi, du, ev, cr⟩ := t
  dsimp only at hdn hzc hdt2
  subst hdn
  have own := HO.out.2
  have hAt : ∃ gg, At = some ⟨gg, 0, none⟩ := by
    rcases HO.out.2 with ⟨e, h0⟩ | ⟨gg, cap, cur, e, _⟩
    · omega
    · injection e with e1 e2 e3
      exact ⟨gg, e1⟩
  obtain ⟨gg, rfl⟩ := hAt
  clear own
  cases cr
  · skip
    obtain rfl : z = 0 := hzc rfl
    go_wp2_with fail
    (try (go_quiet (fail); go_wp2_with fail))
    refine (iDue_is _ (some ⟨gg, 0, none⟩) _ ct ts ((HTt.out.below (by repeat (first | with_reducible exact HDt1.out | with_reducible refine Below.drew ?_ | with_reducible refine bl_drewN ?_ _ | with_reducible refine bl_alloc ?_ _) : Below w1.heap.size w1 _)).more (Below.size (by repeat (first | with_reducible exact HDt1.out | with_reducible refine Below.drew ?_ | with_reducible refine bl_drewN ?_ _ | with_reducible refine bl_alloc ?_ _) : Below w1.heap.size w1 _))) (by omega) e0 (by repeat (first | exact HE.out.below HB1.out | refine EG.drewN ?_ _ | refine EG.drew ?_ | refine EG.alloc ?_ _)) (k : Int) P Q true HD.out.1 HD.out.2).mono ?_
    rintro e w2 ⟨rfl, hb⟩
    have hs2 := hb.size
    have HB2 := Lib.hid (show Below w.heap.size w w2 from bl_trans (by repeat (first | with_reducible exact HB1.out | with_reducible refine bl_drewN ?_ _ | with_reducible refine Below.drew ?_ | with_reducible refine bl_alloc ?_ _)) hb)
    have HDt2 := Lib.hid (show Below w1.heap.size w1 w2 from bl_trans (by repeat (first | with_reducible exact HDt1.out | with_reducible refine Below.drew ?_ | with_reducible refine bl_drewN ?_ _ | with_reducible refine bl_alloc ?_ _)) hb)
    clear hb HB1 HDt1
    go_wp2_with fail
    (try (go_quiet (fail); go_wp2_with fail))
    refine (sDue_is _ (some ⟨gg, 0, none⟩) _ ct ts ((HTt.out.below (by repeat (first | with_reducible exact HDt2.out | with_reducible refine Below.drew ?_ | with_reducible refine bl_drewN ?_ _ | with_reducible refine bl_alloc ?_ _) : Below w1.heap.size w1 _)).more (Below.size (by repeat (first | with_reducible exact HDt2.out | with_reducible refine Below.drew ?_ | with_reducible refine bl_drewN ?_ _ | with_reducible refine bl_alloc ?_ _) : Below w1.heap.size w1 _))) (by omega) (k : Int) P Q true HD.out.1 HD.out.2).mono ?_
    rintro e w3 ⟨rfl, hb⟩
    have hs3 := hb.size
    have HB3 := Lib.hid (show Below w.heap.size w w3 from bl_trans (by repeat (first | with_reducible exact HB2.out | with_reducible refine bl_drewN ?_ _ | with_reducible refine Below.drew ?_ | with_reducible refine bl_alloc ?_ _)) hb)
    have bx3 := Lib.hid (show Blk w3 (w2.heap.size) 27 #[.int .i64 (P : Int), .int .i64 (Q : Int)] from Blk.below (by have hh := Blk.new w2 27 #[.int .i64 (P : Int), .int .i64 (Q : Int)]; (try simp only [World.size_alloc] at hh); repeat (first | exact hh | with_reducible refine Blk.drewN ?_ _ | with_reducible refine Blk.drew ?_ | with_reducible refine Blk.alloc ?_ _)) hb (by first | omega | (simp; done) | (simp; omega)))
    have HDt3 := Lib.hid (show Below w1.heap.size w1 w3 from bl_trans (by repeat (first | with_reducible exact HDt2.out | with_reducible refine Below.drew ?_ | with_reducible refine bl_drewN ?_ _ | with_reducible refine bl_alloc ?_ _)) hb)
    clear hb HB2 HDt2
    obtain ⟨hbl3, c0, c1, c2, c3, c4⟩ := Tks.get5 (HTt.out.below HDt3.out) HTK.out
    have hbl := Nat.lt_of_lt_of_le hbl3 HDt3.out.size
    simp only [Nat.zero_add] at c0 c1 c2 c3 c4
    have d2 := fun o => (World.cell?_alloc_lt w3 o ⟨gg, k * 5 + 2, none⟩ hbl).trans c2
    have d4 := fun o => (World.cell?_alloc_lt w3 o ⟨gg, k * 5 + 4, none⟩ hbl).trans c4
    have cx := fun o0 => (bx3.out.alloc o0).cell
    go_wp2_with fail
    (try (go_quiet (fail); go_wp2_with fail))
    refine (iMake_is _ (dn : Int) 1 dn 1 true HM.out.1 HM.out.2).mono ?_
    rintro e w4 ⟨rfl, hb⟩
    have hs4 := hb.size
    have HB4 := Lib.hid (show Below w.heap.size w w4 from bl_trans (by repeat (first | with_reducible exact HB3.out | with_reducible refine bl_drewN ?_ _ | with_reducible refine Below.drew ?_ | with_reducible refine bl_alloc ?_ _)) hb)
    have bx4 := Lib.hid (show Blk w4 (w2.heap.size) 27 #[.int .i64 (P : Int), .int .i64 (Q : Int)] from Blk.below (by repeat (first | with_reducible exact bx3.out | with_reducible refine Blk.drewN ?_ _ | with_reducible refine Blk.drew ?_ | with_reducible refine Blk.alloc ?_ _)) hb (by have := bx3.out.lt; first | omega | (simp; omega)))
    have bk4 := Lib.hid (show Blk w4 (w3.heap.size) 27 #[.int .i64 (P : Int), .int .i64 (Q : Int)] from Blk.below (by have hh := Blk.new w3 27 #[.int .i64 (P : Int), .int .i64 (Q : Int)]; (try simp only [World.size_alloc] at hh); repeat (first | exact hh | with_reducible refine Blk.drewN ?_ _ | with_reducible refine Blk.drew ?_ | with_reducible refine Blk.alloc ?_ _)) hb (by first | omega | (simp; done) | (simp; omega)))
    have HDt4 := Lib.hid (show Below w1.heap.size w1 w4 from bl_trans (by repeat (first | with_reducible exact HDt3.out | with_reducible refine Below.drew ?_ | with_reducible refine bl_drewN ?_ _ | with_reducible refine bl_alloc ?_ _)) hb)
    clear hb HB3 bx3 cx HDt3
    clear d2 d4 c0 c1 c2 c3 c4 hbl
    have cx := fun o0 => (bx4.out.alloc o0).cell
    have ck := fun o0 => (bk4.out.alloc o0).cell
    go_wp2_with fail
    (try (go_quiet (fail); go_wp2_with fail))
    refine (iCmp_is _ P Q dn 1 0 HZ.out).mono ?_
    rintro e w5 ⟨rfl, hb⟩
    have hs5 := hb.size
    have HB5 := Lib.hid (show Below w.heap.size w w5 from bl_trans (by repeat (first | with_reducible exact HB4.out | with_reducible refine bl_drewN ?_ _ | with_reducible refine Below.drew ?_ | with_reducible refine bl_alloc ?_ _)) hb)
    have bx5 := Lib.hid (show Blk w5 (w2.heap.size) 27 #[.int .i64 (P : Int), .int .i64 (Q : Int)] from Blk.below (by repeat (first | with_reducible exact bx4.out | with_reducible refine Blk.drewN ?_ _ | with_reducible refine Blk.drew ?_ | with_reducible refine Blk.alloc ?_ _)) hb (by have := bx4.out.lt; first | omega | (simp; omega)))
    have bk5 := Lib.hid (show Blk w5 (w3.heap.size) 27 #[.int .i64 (P : Int), .int .i64 (Q : Int)] from Blk.below (by repeat (first | with_reducible exact bk4.out | with_reducible refine Blk.drewN ?_ _ | with_reducible refine Blk.drew ?_ | with_reducible refine Blk.alloc ?_ _)) hb (by have := bk4.out.lt; first | omega | (simp; omega)))
    have bd5 := Lib.hid (show Blk w5 (w4.heap.size) 27 #[.int .i64 (dn : Int), .int .i64 1] from Blk.below (by have hh := Blk.new w4 27 #[.int .i64 (dn : Int), .int .i64 1]; (try simp only [World.size_alloc] at hh); repeat (first | exact hh | with_reducible refine Blk.drewN ?_ _ | with_reducible refine Blk.drew ?_ | with_reducible refine Blk.alloc ?_ _)) hb (by first | omega | (simp; done) | (simp; omega)))
    have HDt5 := Lib.hid (show Below w1.heap.size w1 w5 from bl_trans (by repeat (first | with_reducible exact HDt4.out | with_reducible refine Below.drew ?_ | with_reducible refine bl_drewN ?_ _ | with_reducible refine bl_alloc ?_ _)) hb)
    clear hb HB4 bx4 bk4 cx ck HDt4
    have cx := bx5.out.cell
    have ck := bk5.out.cell
    have cd := bd5.out.cell
    go_wp2_with fail
    (try (go_quiet (fail); go_wp2_with fail))
    refine (iShare_is _ P Q true HV.out).mono ?_
    rintro e w6 ⟨rfl, hb⟩
    have hs6 := hb.size
    have HB6 := Lib.hid (show Below w.heap.size w w6 from bl_trans (by repeat (first | with_reducible exact HB5.out | with_reducible refine bl_drewN ?_ _ | with_reducible refine Below.drew ?_ | with_reducible refine bl_alloc ?_ _)) hb)
    have bx6 := Lib.hid (show Blk w6 (w2.heap.size) 27 #[.int .i64 (P : Int), .int .i64 (Q : Int)] from Blk.below (by repeat (first | with_reducible exact bx5.out | with_reducible refine Blk.drewN ?_ _ | with_reducible refine Blk.drew ?_ | with_reducible refine Blk.alloc ?_ _)) hb (by have := bx5.out.lt; first | omega | (simp; omega)))
    have bk6 := Lib.hid (show Blk w6 (w3.heap.size) 27 #[.int .i64 (P : Int), .int .i64 (Q : Int)] from Blk.below (by repeat (first | with_reducible exact bk5.out | with_reducible refine Blk.drewN ?_ _ | with_reducible refine Blk.drew ?_ | with_reducible refine Blk.alloc ?_ _)) hb (by have := bk5.out.lt; first | omega | (simp; omega)))
    have bd6 := Lib.hid (show Blk w6 (w4.heap.size) 27 #[.int .i64 (dn : Int), .int .i64 1] from Blk.below (by repeat (first | with_reducible exact bd5.out | with_reducible refine Blk.drewN ?_ _ | with_reducible refine Blk.drew ?_ | with_reducible refine Blk.alloc ?_ _)) hb (by have := bd5.out.lt; first | omega | (simp; omega)))
    have HDt6 := Lib.hid (show Below w1.heap.size w1 w6 from bl_trans (by repeat (first | with_reducible exact HDt5.out | with_reducible refine Below.drew ?_ | with_reducible refine bl_drewN ?_ _ | with_reducible refine bl_alloc ?_ _)) hb)
    clear hb HB5 bx5 bk5 bd5 cx ck cd HDt5
    obtain ⟨hbl6, c0, c1, c2, c3, c4⟩ := Tks.get5 (HTt.out.below HDt6.out) HTK.out
    have hbl := Nat.lt_of_lt_of_le hbl6 HDt6.out.size
    simp only [Nat.zero_add] at c0 c1 c2 c3 c4
    have d2 := fun o => (World.cell?_alloc_lt w6 o ⟨gg, k * 5 + 2, none⟩ hbl).trans c2
    have d4 := fun o => (World.cell?_alloc_lt w6 o ⟨gg, k * 5 + 4, none⟩ hbl).trans c4
    have cx := bx6.out.cell
    have ck := bk6.out.cell
    have cd := bd6.out.cell
    go_wp2
    (try (go_quiet (fail); go_wp2))
    go_ret
    exact ⟨rfl, by repeat (first | with_reducible exact HB6.out | refine bl_drewN ?_ _ | refine Below.drew ?_ | refine bl_alloc ?_ _ | refine bl_set ?_ (by dsimp only; omega) _)⟩
  · skip
    clear hzc
    go_wp2_with fail
    (try (go_quiet (fail); go_wp2_with fail))
    refine (iDue_is _ (some ⟨gg, 0, none⟩) _ ct ts ((HTt.out.below (by repeat (first | with_reducible exact HDt1.out | with_reducible refine Below.drew ?_ | with_reducible refine bl_drewN ?_ _ | with_reducible refine bl_alloc ?_ _) : Below w1.heap.size w1 _)).more (Below.size (by repeat (first | with_reducible exact HDt1.out | with_reducible refine Below.drew ?_ | with_reducible refine bl_drewN ?_ _ | with_reducible refine bl_alloc ?_ _) : Below w1.heap.size w1 _))) (by omega) e0 (by repeat (first | exact HE.out.below HB1.out | refine EG.drewN ?_ _ | refine EG.drew ?_ | refine EG.alloc ?_ _)) (k : Int) P Q true HD.out.1 HD.out.2).mono ?_
    rintro e w2 ⟨rfl, hb⟩
    have hs2 := hb.size
    have HB2 := Lib.hid (show Below w.heap.size w w2 from bl_trans (by repeat (first | with_reducible exact HB1.out | with_reducible refine bl_drewN ?_ _ | with_reducible refine Below.drew ?_ | with_reducible refine bl_alloc ?_ _)) hb)
    have HDt2 := Lib.hid (show Below w1.heap.size w1 w2 from bl_trans (by repeat (first | with_reducible exact HDt1.out | with_reducible refine Below.drew ?_ | with_reducible refine bl_drewN ?_ _ | with_reducible refine bl_alloc ?_ _)) hb)
    clear hb HB1 HDt1
    go_wp2_with fail
    (try (go_quiet (fail); go_wp2_with fail))
    refine (sDue_is _ (some ⟨gg, 0, none⟩) _ ct ts ((HTt.out.below (by repeat (first | with_reducible exact HDt2.out | with_reducible refine Below.drew ?_ | with_reducible refine bl_drewN ?_ _ | with_reducible refine bl_alloc ?_ _) : Below w1.heap.size w1 _)).more (Below.size (by repeat (first | with_reducible exact HDt2.out | with_reducible refine Below.drew ?_ | with_reducible refine bl_drewN ?_ _ | with_reducible refine bl_alloc ?_ _) : Below w1.heap.size w1 _))) (by omega) (k : Int) P Q true HD.out.1 HD.out.2).mono ?_
    rintro e w3 ⟨rfl, hb⟩
    have hs3 := hb.size
    have HB3 := Lib.hid (show Below w.heap.size w w3 from bl_trans (by repeat (first | with_reducible exact HB2.out | with_reducible refine bl_drewN ?_ _ | with_reducible refine Below.drew ?_ | with_reducible refine bl_alloc ?_ _)) hb)
    have bx3 := Lib.hid (show Blk w3 (w2.heap.size) 27 #[.int .i64 (P : Int), .int .i64 (Q : Int)] from Blk.below (by have hh := Blk.new w2 27 #[.int .i64 (P : Int), .int .i64 (Q : Int)]; (try simp only [World.size_alloc] at hh); repeat (first | exact hh | with_reducible refine Blk.drewN ?_ _ | with_reducible refine Blk.drew ?_ | with_reducible refine Blk.alloc ?_ _)) hb (by first | omega | (simp; done) | (simp; omega)))
    have HDt3 := Lib.hid (show Below w1.heap.size w1 w3 from bl_trans (by repeat (first | with_reducible exact HDt2.out | with_reducible refine Below.drew ?_ | with_reducible refine bl_drewN ?_ _ | with_reducible refine bl_alloc ?_ _)) hb)
    clear hb HB2 HDt2
    obtain ⟨hbl3, c0, c1, c2, c3, c4⟩ := Tks.get5 (HTt.out.below HDt3.out) HTK.out
    have hbl := Nat.lt_of_lt_of_le hbl3 HDt3.out.size
    simp only [Nat.zero_add] at c0 c1 c2 c3 c4
    have d2 := fun o => (World.cell?_alloc_lt w3 o ⟨gg, k * 5 + 2, none⟩ hbl).trans c2
    have d4 := fun o => (World.cell?_alloc_lt w3 o ⟨gg, k * 5 + 4, none⟩ hbl).trans c4
    have cx := fun o0 => (bx3.out.alloc o0).cell
    go_wp2_with fail
    (try (go_quiet (fail); go_wp2_with fail))
    refine (iMake_is _ (dn : Int) 1 dn 1 true HM.out.1 HM.out.2).mono ?_
    rintro e w4 ⟨rfl, hb⟩
    have hs4 := hb.size
    have HB4 := Lib.hid (show Below w.heap.size w w4 from bl_trans (by repeat (first | with_reducible exact HB3.out | with_reducible refine bl_drewN ?_ _ | with_reducible refine Below.drew ?_ | with_reducible refine bl_alloc ?_ _)) hb)
    have bx4 := Lib.hid (show Blk w4 (w2.heap.size) 27 #[.int .i64 (P : Int), .int .i64 (Q : Int)] from Blk.below (by repeat (first | with_reducible exact bx3.out | with_reducible refine Blk.drewN ?_ _ | with_reducible refine Blk.drew ?_ | with_reducible refine Blk.alloc ?_ _)) hb (by have := bx3.out.lt; first | omega | (simp; omega)))
    have bk4 := Lib.hid (show Blk w4 (w3.heap.size) 27 #[.int .i64 (P : Int), .int .i64 (Q : Int)] from Blk.below (by have hh := Blk.new w3 27 #[.int .i64 (P : Int), .int .i64 (Q : Int)]; (try simp only [World.size_alloc] at hh); repeat (first | exact hh | with_reducible refine Blk.drewN ?_ _ | with_reducible refine Blk.drew ?_ | with_reducible refine Blk.alloc ?_ _)) hb (by first | omega | (simp; done) | (simp; omega)))
    have HDt4 := Lib.hid (show Below w1.heap.size w1 w4 from bl_trans (by repeat (first | with_reducible exact HDt3.out | with_reducible refine Below.drew ?_ | with_reducible refine bl_drewN ?_ _ | with_reducible refine bl_alloc ?_ _)) hb)
    clear hb HB3 bx3 cx HDt3
    clear d2 d4 c0 c1 c2 c3 c4 hbl
    have cx := fun o0 => (bx4.out.alloc o0).cell
    have ck := fun o0 => (bk4.out.alloc o0).cell
    go_wp2_with fail
    (try (go_quiet (fail); go_wp2_with fail))
    refine (iCmp_is _ P Q dn 1 z HZ.out).mono ?_
    rintro e w5 ⟨rfl, hb⟩
    have hs5 := hb.size
    have HB5 := Lib.hid (show Below w.heap.size w w5 from bl_trans (by repeat (first | with_reducible exact HB4.out | with_reducible refine bl_drewN ?_ _ | with_reducible refine Below.drew ?_ | with_reducible refine bl_alloc ?_ _)) hb)
    have bx5 := Lib.hid (show Blk w5 (w2.heap.size) 27 #[.int .i64 (P : Int), .int .i64 (Q : Int)] from Blk.below (by repeat (first | with_reducible exact bx4.out | with_reducible refine Blk.drewN ?_ _ | with_reducible refine Blk.drew ?_ | with_reducible refine Blk.alloc ?_ _)) hb (by have := bx4.out.lt; first | omega | (simp; omega)))
    have bk5 := Lib.hid (show Blk w5 (w3.heap.size) 27 #[.int .i64 (P : Int), .int .i64 (Q : Int)] from Blk.below (by repeat (first | with_reducible exact bk4.out | with_reducible refine Blk.drewN ?_ _ | with_reducible refine Blk.drew ?_ | with_reducible refine Blk.alloc ?_ _)) hb (by have := bk4.out.lt; first | omega | (simp; omega)))
    have bd5 := Lib.hid (show Blk w5 (w4.heap.size) 27 #[.int .i64 (dn : Int), .int .i64 1] from Blk.below (by have hh := Blk.new w4 27 #[.int .i64 (dn : Int), .int .i64 1]; (try simp only [World.size_alloc] at hh); repeat (first | exact hh | with_reducible refine Blk.drewN ?_ _ | with_reducible refine Blk.drew ?_ | with_reducible refine Blk.alloc ?_ _)) hb (by first | omega | (simp; done) | (simp; omega)))
    have HDt5 := Lib.hid (show Below w1.heap.size w1 w5 from bl_trans (by repeat (first | with_reducible exact HDt4.out | with_reducible refine Below.drew ?_ | with_reducible refine bl_drewN ?_ _ | with_reducible refine bl_alloc ?_ _)) hb)
    clear hb HB4 bx4 bk4 cx ck HDt4
    have cx := bx5.out.cell
    have ck := bk5.out.cell
    have cd := bd5.out.cell
    go_wp2_with fail
    (try (go_quiet (fail); go_wp2_with fail))
    refine (iShare_is _ P Q true HV.out).mono ?_
    rintro e w6 ⟨rfl, hb⟩
    have hs6 := hb.size
    have HB6 := Lib.hid (show Below w.heap.size w w6 from bl_trans (by repeat (first | with_reducible exact HB5.out | with_reducible refine bl_drewN ?_ _ | with_reducible refine Below.drew ?_ | with_reducible refine bl_alloc ?_ _)) hb)
    have bx6 := Lib.hid (show Blk w6 (w2.heap.size) 27 #[.int .i64 (P : Int), .int .i64 (Q : Int)] from Blk.below (by repeat (first | with_reducible exact bx5.out | with_reducible refine Blk.drewN ?_ _ | with_reducible refine Blk.drew ?_ | with_reducible refine Blk.alloc ?_ _)) hb (by have := bx5.out.lt; first | omega | (simp; omega)))
    have bk6 := Lib.hid (show Blk w6 (w3.heap.size) 27 #[.int .i64 (P : Int), .int .i64 (Q : Int)] from Blk.below (by repeat (first | with_reducible exact bk5.out | with_reducible refine Blk.drewN ?_ _ | with_reducible refine Blk.drew ?_ | with_reducible refine Blk.alloc ?_ _)) hb (by have := bk5.out.lt; first | omega | (simp; omega)))
    have bd6 := Lib.hid (show Blk w6 (w4.heap.size) 27 #[.int .i64 (dn : Int), .int .i64 1] from Blk.below (by repeat (first | with_reducible exact bd5.out | with_reducible refine Blk.drewN ?_ _ | with_reducible refine Blk.drew ?_ | with_reducible refine Blk.alloc ?_ _)) hb (by have := bd5.out.lt; first | omega | (simp; omega)))
    have HDt6 := Lib.hid (show Below w1.heap.size w1 w6 from bl_trans (by repeat (first | with_reducible exact HDt5.out | with_reducible refine Below.drew ?_ | with_reducible refine bl_drewN ?_ _ | with_reducible refine bl_alloc ?_ _)) hb)
    clear hb HB5 bx5 bk5 bd5 cx ck cd HDt5
    obtain ⟨hbl6, c0, c1, c2, c3, c4⟩ := Tks.get5 (HTt.out.below HDt6.out) HTK.out
    have hbl := Nat.lt_of_lt_of_le hbl6 HDt6.out.size
    simp only [Nat.zero_add] at c0 c1 c2 c3 c4
    have d2 := fun o => (World.cell?_alloc_lt w6 o ⟨gg, k * 5 + 2, none⟩ hbl).trans c2
    have d4 := fun o => (World.cell?_alloc_lt w6 o ⟨gg, k * 5 + 4, none⟩ hbl).trans c4
    have cx := bx6.out.cell
    have ck := bk6.out.cell
    have cd := bd6.out.cell
    go_wp2
    (try (go_quiet (fail); go_wp2))
    go_ret
    exact ⟨rfl, by repeat (first | with_reducible exact HB6.out | refine bl_drewN ?_ _ | refine Below.drew ?_ | refine bl_alloc ?_ _ | refine bl_set ?_ (by dsimp only; omega) _)⟩

end Go.Proofs.YtpngfonnoepmfaaDoor
