/- The walks of the laws on shares of tasks. -/
import Derived.Test.YthaflbgkhlggkaaDoorM5
import Derived.Test.YthaflbgkhlggkaaDoorM3
import Derived.Test.YthaflbgkhlggkaaDoorM1
import Derived.Deep.QuietTactic
import Derived.BigQuiet
import Derived.Deep.RegionWith
import Derived.Deep.RegionHeld3
namespace Go.Proofs.YthaflbgkhlggkaaDoor
open Go.RowKit
set_option linter.unusedVariables false

set_option maxHeartbeats 2000000 in
theorem fnShareHyper_walk (w : World) (A : Option Addr) (n c : Nat) (f : Nat → Int) (h : Code w w.heap.size A n c f) (e0 : Addr) (he : EG w e0) :
    Calls Tryd.prog 8 #[.slice A n c] w fun e w' => e = .returned (.bool true) ∧ Below w.heap.size w w' := by
  have H := Lib.hid h
  have HE := Lib.hid he
  have hle := h.le
  have hmax := h.max
  unfold maxLen at hmax
  clear h he
  by_cases hn : 1048576 < n
  · go_enter Tryd.func8, Tryd.ntmps8
    go_wp2
    go_ret
    exact ⟨rfl, Below.refl _ _⟩
  go_enter Tryd.func8, Tryd.ntmps8
  go_wp2_with fail
  refine (dDrawHighShare_any _ A n c f H.out).mono ?_
  rintro e w1 ⟨At, ct, ts, rfl, hl, _, ho, hb⟩
  have HB1 := Lib.hid hb
  have HO := Lib.hid ho
  have HTt := Lib.hid ho.reads.2
  clear hb H ho
  have HDt1 := Lib.hid (Below.refl w1.heap.size w1)
  cases hs : setB ts
  · have HP := Lib.hid (highOf_bad hs)
    go_wp2_with fail
    (try (go_quiet (fail); go_wp2_with fail))
    refine (iHigh_is _ At _ ct ts ((HTt.out.below (by repeat (first | with_reducible exact HDt1.out | with_reducible refine Below.drew ?_ | with_reducible refine bl_drewN ?_ _ | with_reducible refine bl_alloc ?_ _) : Below w1.heap.size w1 _)).more (Below.size (by repeat (first | with_reducible exact HDt1.out | with_reducible refine Below.drew ?_ | with_reducible refine bl_drewN ?_ _ | with_reducible refine bl_alloc ?_ _) : Below w1.heap.size w1 _))) (by omega) e0 (by repeat (first | exact HE.out.below HB1.out | refine EG.drewN ?_ _ | refine EG.drew ?_ | refine EG.alloc ?_ _)) 0 0 HP.out).mono ?_
    rintro e w2 ⟨rfl, hb⟩
    have hs2 := hb.size
    have HB2 := Lib.hid (show Below w.heap.size w w2 from bl_trans (by repeat (first | with_reducible exact HB1.out | with_reducible refine bl_drewN ?_ _ | with_reducible refine Below.drew ?_ | with_reducible refine bl_alloc ?_ _)) hb)
    have HDt2 := Lib.hid (show Below w1.heap.size w1 w2 from bl_trans (by repeat (first | with_reducible exact HDt1.out | with_reducible refine Below.drew ?_ | with_reducible refine bl_drewN ?_ _ | with_reducible refine bl_alloc ?_ _)) hb)
    clear hb HB1 HDt1
    have hS2 := (Blk.two (show Blk (w2.alloc (.cells #[.int .i64 0, .int .i64 0] 27)) (w2.heap.size) 27 #[.int .i64 0, .int .i64 0] from by have hh := Blk.new w2 27 #[.int .i64 0, .int .i64 0]; (try simp only [World.size_alloc] at hh); repeat (first | exact hh | with_reducible refine Blk.alloc ?_ _)))
    go_wp2_with fail
    go_region_held3 (fun W => (W.cell? ⟨w2.heap.size, 0, none⟩ = some (.int .i64 0) ∧ W.cell? ⟨w2.heap.size, 1, none⟩ = some (.int .i64 0))) (first | exact hS2 | exact hS3 | exact hS4)
      ((first
        | (go_at_call 22; refine (sHigh_is _ At _ ct ts ((HTt.out.below (by repeat (first | with_reducible exact HDt2.out | with_reducible refine Below.drew ?_ | with_reducible refine bl_drewN ?_ _ | with_reducible refine bl_alloc ?_ _) : Below w1.heap.size w1 _)).more (Below.size (by repeat (first | with_reducible exact HDt2.out | with_reducible refine Below.drew ?_ | with_reducible refine bl_drewN ?_ _ | with_reducible refine bl_alloc ?_ _) : Below w1.heap.size w1 _))) (by omega) 0 0 HP.out).mono ?_; rintro e w3 ⟨rfl, hb⟩; have hs3 := hb.size; have HB3 := Lib.hid (show Below w.heap.size w w3 from bl_trans (by repeat (first | with_reducible exact HB2.out | with_reducible refine bl_drewN ?_ _ | with_reducible refine Below.drew ?_ | with_reducible refine bl_alloc ?_ _)) hb); have bs3 := Lib.hid (show Blk w3 (w2.heap.size) 27 #[.int .i64 0, .int .i64 0] from Blk.below (by have hh := Blk.new w2 27 #[.int .i64 0, .int .i64 0]; (try simp only [World.size_alloc] at hh); repeat (first | exact hh | with_reducible refine Blk.drewN ?_ _ | with_reducible refine Blk.drew ?_ | with_reducible refine Blk.alloc ?_ _)) hb (by first | omega | (simp; done) | (simp; omega))); have cs := bs3.out.cell; have HDt3 := Lib.hid (show Below w1.heap.size w1 w3 from bl_trans (by repeat (first | with_reducible exact HDt2.out | with_reducible refine Below.drew ?_ | with_reducible refine bl_drewN ?_ _ | with_reducible refine bl_alloc ?_ _)) hb); have hS3 := Blk.two bs3.out; clear hb)
        | (go_at_call 17; refine (iSetValid_any _ At _ ct ts ((HTt.out.below (by repeat (first | with_reducible exact HDt3.out | with_reducible refine Below.drew ?_ | with_reducible refine bl_drewN ?_ _ | with_reducible refine bl_alloc ?_ _) : Below w1.heap.size w1 _)).more (Below.size (by repeat (first | with_reducible exact HDt3.out | with_reducible refine Below.drew ?_ | with_reducible refine bl_drewN ?_ _ | with_reducible refine bl_alloc ?_ _) : Below w1.heap.size w1 _))) (by omega)).mono ?_; rintro e w4 ⟨rfl, hb⟩; have hs4 := hb.size; have HB4 := Lib.hid (show Below w.heap.size w w4 from bl_trans (by repeat (first | with_reducible exact HB3.out | with_reducible refine bl_drewN ?_ _ | with_reducible refine Below.drew ?_ | with_reducible refine bl_alloc ?_ _)) hb); have bs4 := Lib.hid (show Blk w4 (w2.heap.size) 27 #[.int .i64 0, .int .i64 0] from Blk.below (by repeat (first | with_reducible exact bs3.out | with_reducible refine Blk.drewN ?_ _ | with_reducible refine Blk.drew ?_ | with_reducible refine Blk.alloc ?_ _)) hb (by have := bs3.out.lt; first | exact this | omega | (simp; omega))); have cs := bs4.out.cell; have HDt4 := Lib.hid (show Below w1.heap.size w1 w4 from bl_trans (by repeat (first | with_reducible exact HDt3.out | with_reducible refine Below.drew ?_ | with_reducible refine bl_drewN ?_ _ | with_reducible refine bl_alloc ?_ _)) hb); have hS4 := Blk.two bs4.out; clear hb)))
    have hks4 := bs4.out.lt
    have cs := bs4.out.cell
    have hS4 := (Blk.two (show Blk w4 (w2.heap.size) 27 #[.int .i64 0, .int .i64 0] from by repeat (first | with_reducible exact bs4.out | with_reducible refine Blk.alloc ?_ _)))
    go_wp2_with fail
    go_region_held3 (fun W => (W.cell? ⟨w2.heap.size, 0, none⟩ = some (.int .i64 0) ∧ W.cell? ⟨w2.heap.size, 1, none⟩ = some (.int .i64 0))) (first | exact hS4 | exact hS5)
      ((first
        | (go_at_call 22; refine (sHigh_is _ At _ ct ts ((HTt.out.below (by repeat (first | with_reducible exact HDt4.out | with_reducible refine Below.drew ?_ | with_reducible refine bl_drewN ?_ _ | with_reducible refine bl_alloc ?_ _) : Below w1.heap.size w1 _)).more (Below.size (by repeat (first | with_reducible exact HDt4.out | with_reducible refine Below.drew ?_ | with_reducible refine bl_drewN ?_ _ | with_reducible refine bl_alloc ?_ _) : Below w1.heap.size w1 _))) (by omega) 0 0 HP.out).mono ?_; rintro e w5 ⟨rfl, hb⟩; have hs5 := hb.size; have HB5 := Lib.hid (show Below w.heap.size w w5 from bl_trans (by repeat (first | with_reducible exact HB4.out | with_reducible refine bl_drewN ?_ _ | with_reducible refine Below.drew ?_ | with_reducible refine bl_alloc ?_ _)) hb); have bs5 := Lib.hid (show Blk w5 (w2.heap.size) 27 #[.int .i64 0, .int .i64 0] from Blk.below (by repeat (first | with_reducible exact bs4.out | with_reducible refine Blk.drewN ?_ _ | with_reducible refine Blk.drew ?_ | with_reducible refine Blk.alloc ?_ _)) hb (by have := bs4.out.lt; first | exact this | omega | (simp; omega))); have cs := bs5.out.cell; have HDt5 := Lib.hid (show Below w1.heap.size w1 w5 from bl_trans (by repeat (first | with_reducible exact HDt4.out | with_reducible refine Below.drew ?_ | with_reducible refine bl_drewN ?_ _ | with_reducible refine bl_alloc ?_ _)) hb); have hS5 := Blk.two bs5.out; clear hb)))
    have hks5 := bs5.out.lt
    have cs := bs5.out.cell
    go_wp2
    (try (go_quiet (fail); go_wp2))
    go_ret
    exact ⟨rfl, by repeat (first | with_reducible exact HB5.out | refine bl_drewN ?_ _ | refine Below.drew ?_ | refine bl_alloc ?_ _ | refine bl_set ?_ (by dsimp only; omega) _)⟩
  obtain ⟨p, q, hpq⟩ : ∃ p q, highOf ts = (p, q) := ⟨_, _, rfl⟩
  have hsh := highOf_sh hs
  rw [hpq] at hsh
  have HS := Lib.hid (show Sh p q from hsh.1)
  have pb : p ≤ 16000000 := hsh.2.1
  have qb : q ≤ 3200000 := hsh.2.2
  have hl5 : ts.length ≤ 5 := setB_len hs
  have HV := Lib.hid (of_sh HS.out)
  have HP := Lib.hid hpq
  have HSET := Lib.hid hs
  clear hpq hsh
  go_wp2_with fail
  (try (go_quiet (fail); go_wp2_with fail))
  refine (iHigh_is _ At _ ct ts ((HTt.out.below (by repeat (first | with_reducible exact HDt1.out | with_reducible refine Below.drew ?_ | with_reducible refine bl_drewN ?_ _ | with_reducible refine bl_alloc ?_ _) : Below w1.heap.size w1 _)).more (Below.size (by repeat (first | with_reducible exact HDt1.out | with_reducible refine Below.drew ?_ | with_reducible refine bl_drewN ?_ _ | with_reducible refine bl_alloc ?_ _) : Below w1.heap.size w1 _))) (by omega) e0 (by repeat (first | exact HE.out.below HB1.out | refine EG.drewN ?_ _ | refine EG.drew ?_ | refine EG.alloc ?_ _)) p q HP.out).mono ?_
  rintro e w2 ⟨rfl, hb⟩
  have hs2 := hb.size
  have HB2 := Lib.hid (show Below w.heap.size w w2 from bl_trans (by repeat (first | with_reducible exact HB1.out | with_reducible refine bl_drewN ?_ _ | with_reducible refine Below.drew ?_ | with_reducible refine bl_alloc ?_ _)) hb)
  have HDt2 := Lib.hid (show Below w1.heap.size w1 w2 from bl_trans (by repeat (first | with_reducible exact HDt1.out | with_reducible refine Below.drew ?_ | with_reducible refine bl_drewN ?_ _ | with_reducible refine bl_alloc ?_ _)) hb)
  clear hb HB1 HDt1
  have hS2 := (Blk.two (show Blk (w2.alloc (.cells #[.int .i64 (p : Int), .int .i64 (q : Int)] 27)) (w2.heap.size) 27 #[.int .i64 (p : Int), .int .i64 (q : Int)] from by have hh := Blk.new w2 27 #[.int .i64 (p : Int), .int .i64 (q : Int)]; (try simp only [World.size_alloc] at hh); repeat (first | exact hh | with_reducible refine Blk.alloc ?_ _)))
  go_wp2_with fail
  go_region_held3 (fun W => (W.cell? ⟨w2.heap.size, 0, none⟩ = some (.int .i64 (p : Int)) ∧ W.cell? ⟨w2.heap.size, 1, none⟩ = some (.int .i64 (q : Int)))) (first | exact hS2 | exact hS3 | exact hS4)
    ((first
      | (go_at_call 22; refine (sHigh_is _ At _ ct ts ((HTt.out.below (by repeat (first | with_reducible exact HDt2.out | with_reducible refine Below.drew ?_ | with_reducible refine bl_drewN ?_ _ | with_reducible refine bl_alloc ?_ _) : Below w1.heap.size w1 _)).more (Below.size (by repeat (first | with_reducible exact HDt2.out | with_reducible refine Below.drew ?_ | with_reducible refine bl_drewN ?_ _ | with_reducible refine bl_alloc ?_ _) : Below w1.heap.size w1 _))) (by omega) p q HP.out).mono ?_; rintro e w3 ⟨rfl, hb⟩; have hs3 := hb.size; have HB3 := Lib.hid (show Below w.heap.size w w3 from bl_trans (by repeat (first | with_reducible exact HB2.out | with_reducible refine bl_drewN ?_ _ | with_reducible refine Below.drew ?_ | with_reducible refine bl_alloc ?_ _)) hb); have bs3 := Lib.hid (show Blk w3 (w2.heap.size) 27 #[.int .i64 (p : Int), .int .i64 (q : Int)] from Blk.below (by have hh := Blk.new w2 27 #[.int .i64 (p : Int), .int .i64 (q : Int)]; (try simp only [World.size_alloc] at hh); repeat (first | exact hh | with_reducible refine Blk.drewN ?_ _ | with_reducible refine Blk.drew ?_ | with_reducible refine Blk.alloc ?_ _)) hb (by first | omega | (simp; done) | (simp; omega))); have cs := bs3.out.cell; have HDt3 := Lib.hid (show Below w1.heap.size w1 w3 from bl_trans (by repeat (first | with_reducible exact HDt2.out | with_reducible refine Below.drew ?_ | with_reducible refine bl_drewN ?_ _ | with_reducible refine bl_alloc ?_ _)) hb); have hS3 := Blk.two bs3.out; clear hb)
      | (go_at_call 17; refine (iSetValid_any _ At _ ct ts ((HTt.out.below (by repeat (first | with_reducible exact HDt3.out | with_reducible refine Below.drew ?_ | with_reducible refine bl_drewN ?_ _ | with_reducible refine bl_alloc ?_ _) : Below w1.heap.size w1 _)).more (Below.size (by repeat (first | with_reducible exact HDt3.out | with_reducible refine Below.drew ?_ | with_reducible refine bl_drewN ?_ _ | with_reducible refine bl_alloc ?_ _) : Below w1.heap.size w1 _))) (by omega)).mono ?_; rintro e w4 ⟨rfl, hb⟩; have hs4 := hb.size; have HB4 := Lib.hid (show Below w.heap.size w w4 from bl_trans (by repeat (first | with_reducible exact HB3.out | with_reducible refine bl_drewN ?_ _ | with_reducible refine Below.drew ?_ | with_reducible refine bl_alloc ?_ _)) hb); have bs4 := Lib.hid (show Blk w4 (w2.heap.size) 27 #[.int .i64 (p : Int), .int .i64 (q : Int)] from Blk.below (by repeat (first | with_reducible exact bs3.out | with_reducible refine Blk.drewN ?_ _ | with_reducible refine Blk.drew ?_ | with_reducible refine Blk.alloc ?_ _)) hb (by have := bs3.out.lt; first | exact this | omega | (simp; omega))); have cs := bs4.out.cell; have HDt4 := Lib.hid (show Below w1.heap.size w1 w4 from bl_trans (by repeat (first | with_reducible exact HDt3.out | with_reducible refine Below.drew ?_ | with_reducible refine bl_drewN ?_ _ | with_reducible refine bl_alloc ?_ _)) hb); have hS4 := Blk.two bs4.out; clear hb)))
  have hks4 := bs4.out.lt
  obtain ⟨m, hm⟩ : ∃ m, m = hyperOf ts := ⟨_, rfl⟩
  have hmb : m ≤ 3200000 := by rw [hm]; exact hyper_le ts
  have hm1 : 1 ≤ m := by rw [hm]; exact hyper_pos HSET.out
  have hdvd : ∀ t ∈ ts, t.ev.toNat ∣ m := fun t ht => by rw [hm]; simp only [hyperOf, HSET.out, if_true]; exact lcmL_dvd ht
  have hneed : redN (needs m ts) m = (p, q) := by
    rw [← needs_share hm1 (setB_all HSET.out).2 hdvd]
    have h := HP.out
    unfold highOf at h
    rw [HSET.out] at h
    exact h
  have hnb : ∀ k, needs m (ts.take k) ≤ 16000000 := fun k => by
    have h := needs_le m (fun t ht => (setB_all HSET.out).2 t (List.mem_of_mem_take ht) : ∀ t ∈ ts.take k, t.ok = true)
    have h2 : (ts.take k).length * m ≤ 5 * 3200000 := Nat.mul_le_mul (by rw [List.length_take]; omega) hmb
    omega
  have HM := Lib.hid hm
  have HN := Lib.hid hneed
  have HNB := Lib.hid hnb
  clear hm hdvd hneed hnb hs
  have cs := bs4.out.cell
  go_wp2_with fail
  (try (go_quiet (fail); go_wp2_with fail))
  refine (iHyperOf_is _ At _ ct ts m HM.out ((HTt.out.below (by repeat (first | with_reducible exact HDt4.out | with_reducible refine Below.drew ?_ | with_reducible refine bl_drewN ?_ _ | with_reducible refine bl_alloc ?_ _) : Below w1.heap.size w1 _)).more (Below.size (by repeat (first | with_reducible exact HDt4.out | with_reducible refine Below.drew ?_ | with_reducible refine bl_drewN ?_ _ | with_reducible refine bl_alloc ?_ _) : Below w1.heap.size w1 _))) (by omega)).mono ?_
  rintro e w5 ⟨rfl, hb⟩
  have hs5 := hb.size
  have HB5 := Lib.hid (show Below w.heap.size w w5 from bl_trans (by repeat (first | with_reducible exact HB4.out | with_reducible refine bl_drewN ?_ _ | with_reducible refine Below.drew ?_ | with_reducible refine bl_alloc ?_ _)) hb)
  have bs5 := Lib.hid (show Blk w5 (w2.heap.size) 27 #[.int .i64 (p : Int), .int .i64 (q : Int)] from Blk.below (by repeat (first | with_reducible exact bs4.out | with_reducible refine Blk.drewN ?_ _ | with_reducible refine Blk.drew ?_ | with_reducible refine Blk.alloc ?_ _)) hb (by have := bs4.out.lt; first | omega | (simp; omega)))
  have HDt5 := Lib.hid (show Below w1.heap.size w1 w5 from bl_trans (by repeat (first | with_reducible exact HDt4.out | with_reducible refine Below.drew ?_ | with_reducible refine bl_drewN ?_ _ | with_reducible refine bl_alloc ?_ _)) hb)
  clear hb HB4 bs4 cs HDt4
  go_wp2
  go_loopw [6, 7] (fun s i wr => ∃ k ss : Nat, k ≤ ts.length ∧ i = .int .i64 k ∧ s = .int .i64 ss ∧ Hid (ss = needs m (ts.take k)) ∧ Hid (Below w.heap.size w wr) ∧ Hid (Blk wr (w2.heap.size) 27 #[.int .i64 (p : Int), .int .i64 (q : Int)]) ∧ Hid (Below w1.heap.size w1 wr)) (fun _ i _ => ts.length - (intOf i).toNat)
  case atStart => exact ⟨0, 0, Nat.zero_le _, rfl, rfl, by show _ = _; simp [needs], HB5, bs5, HDt5⟩
  case round =>
    obtain ⟨k, ss, hk, rfl, rfl, hss, HBr, bsr, HDr⟩ := hrel
    have hsb : ss ≤ 16000000 := by rw [hss.out]; exact HNB.out k
    by_cases hlt : k < ts.length
    · obtain ⟨t, ht⟩ : ∃ t, ts[k]? = some t := ⟨ts[k], List.getElem?_eq_getElem hlt⟩
      obtain ⟨b, o, rfl, hbl, c0, c1, c2, c3, c4⟩ := (HTt.out.below HDr.out).at_ k t ht
      obtain ⟨n1, n2, n3, n4⟩ := ok_nums ((setB_all HSET.out).2 t (List.mem_of_getElem? ht))
      have i1 : (0 : Int) ≤ (k : Int) := by omega
      have i2 : (k : Int) < (ts.length : Int) := by omega
      cases hcr : t.cr
      · have HT := Lib.hid (needs_no (n := m) ht hcr)
        obtain ⟨lo, hi, du, ev, cr⟩ := t
        dsimp only at c0 c1 c2 c3 c4 hcr
        subst hcr
        clear ht
        go_wp2
        go_roundw
        case rel => exact ⟨k + 1, ss, by omega, by go_num, rfl, by show _ = _; rw [HT.out]; exact hss.out, HBr, bsr, HDr⟩
        case measure => simp [intOf]; omega
      · have HT := Lib.hid (needs_yes (n := m) ht hcr)
        obtain ⟨lo, hi, du, ev, cr⟩ := t
        dsimp only at c0 c1 c2 c3 c4 hcr n1 n2 n3 n4 HT
        subst hcr
        clear ht
        obtain ⟨z, rfl⟩ := Int.eq_ofNat_of_zero_le (show 0 ≤ ev by omega)
        obtain ⟨y, rfl⟩ := Int.eq_ofNat_of_zero_le (show 0 ≤ hi by omega)
        have HT' : Hid (needs m (ts.take (k + 1)) = needs m (ts.take k) + m / z * y) := HT.out
        obtain ⟨dd, hdd⟩ : ∃ d, m / z = d := ⟨_, rfl⟩
        obtain ⟨ee, hee⟩ : ∃ d, dd * y = d := ⟨_, rfl⟩
        have e1 : dd ≤ 3200000 := by rw [← hdd]; exact Nat.le_trans (Nat.div_le_self _ _) hmb
        have e2 : ee ≤ 64000000 := by rw [← hee]; exact Nat.le_trans (Nat.mul_le_mul e1 (by omega : y ≤ 20)) (by decide)
        have qd : ((m : Int) / (z : Int)) = (dd : Int) := by rw [div_cast, hdd]
        have qe := mul_cast dd y ee hee
        have HT2 : Hid (needs m (ts.take (k + 1)) = ss + ee) := by show _ = _; rw [HT'.out, hdd, hee, ← hss.out]
        have hz1 : 1 ≤ z := by omega
        clear HT HT' hdd hee
        go_wp2
        (try (go_quiet (fail); go_wp2))
        go_roundw
        case rel => exact ⟨k + 1, ss + ee, by omega, by go_num, by go_num, by show _ = _; exact HT2.out.symm, Lib.hid (bl_drewN HBr.out _), Lib.hid (bsr.out.drewN _), Lib.hid (bl_drewN HDr.out _)⟩
        case measure => simp [intOf]; omega
    · obtain rfl : k = ts.length := by omega
      have hfin : ss = needs m ts := by rw [hss.out, List.take_of_length_le (Nat.le_refl _)]
      have HMK := Lib.hid (show mkS (ss : Int) (m : Int) = (p, q) ∧ mkB (ss : Int) (m : Int) = true from ⟨by rw [mkS_nat (by omega) hm1 (by omega), hfin]; exact HN.out, nat_mk (by omega) hm1 (by omega)⟩)
      clear hfin
      have csr := bsr.out.cell
      go_wp2_with fail
      refine (iMake_is _ ss m p q true HMK.out.1 HMK.out.2).mono ?_
      rintro e w9 ⟨rfl, hb⟩
      have HB9 := Lib.hid (bl_trans HBr.out hb)
      have bs9 := Lib.hid (bsr.out.below hb bsr.out.lt)
      clear hb csr
      have cs := fun o => (bs9.out.alloc o).cell
      go_wp2
      (try (go_quiet (fail); go_wp2))
      go_ret
      exact ⟨rfl, by repeat (first | with_reducible exact HB9.out | with_reducible refine bl_drewN ?_ _ | with_reducible refine Below.drew ?_ | with_reducible refine bl_alloc ?_ _)⟩

end Go.Proofs.YthaflbgkhlggkaaDoor
