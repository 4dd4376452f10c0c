/- Walk of the law FnVirtualOne. -/
import Derived.Test.YtpngfonnoepmfabDoorM6
import Derived.Test.YtpngfonnoepmfabDoorM2
import Derived.Test.YtpngfonnoepmfabDoorM8
import Derived.Test.YtpngfonnoepmfabDoorM5
import Derived.Test.YtpngfonnoepmfabDoorM3
import Derived.Deep.RegionWith
import Derived.Deep.RegionHeld3
namespace Go.Proofs.YtpngfonnoepmfabDoor
open Go.RowKit
set_option linter.unusedVariables false

set_option maxRecDepth 100000 in
set_option maxHeartbeats 6000000 in
theorem fnVirtualOne_walk (w : World) (A : Option Addr) (n c : Nat) (f : Nat → Int) (h : Code w w.heap.size A n c f) (e0 : Addr) (he : EG w e0) :
    Calls Tryd.prog 6 #[.slice A n c] w fun e w' => e = .returned (.bool true) ∧ Below w.heap.size w w' := by
  have H := Lib.hid h
  have HE := Lib.hid he
  have hle := h.le
  have hmax := h.max
  unfold maxLen at hmax
  clear h he
  by_cases hn : 1048576 < n
  · go_enter Tryd.func6, Tryd.ntmps6
    go_wp2
    go_ret
    exact ⟨rfl, Below.refl _ _⟩
  go_enter Tryd.func6, Tryd.ntmps6
  go_wp2_with fail
  refine (dDrawImplicit_any _ A n c f H.out).mono ?_
  rintro e w1 ⟨At, ct, ts, rfl, hl, ho, hb⟩
  have HB1 := Lib.hid hb
  have HO := Lib.hid ho
  have HTt := Lib.hid ho.reads.2
  clear hb H ho
  have HDt1 := Lib.hid (Below.refl w1.heap.size w1)
  cases hi : impB ts
  · have HI := Lib.hid hi
    go_wp2_with fail
    (try (go_quiet (fail); go_wp2_with fail))
    refine (iImp_is _ At _ ct ts ((HTt.out.below (by repeat (first | with_reducible exact HDt1.out | with_reducible refine Below.drew ?_ | with_reducible refine bl_drewN ?_ _ | with_reducible refine bl_alloc ?_ _) : Below w1.heap.size w1 _)).more (Below.size (by repeat (first | with_reducible exact HDt1.out | with_reducible refine Below.drew ?_ | with_reducible refine bl_drewN ?_ _ | with_reducible refine bl_alloc ?_ _) : Below w1.heap.size w1 _))) (by omega) false HI.out).mono ?_
    rintro e w2 ⟨rfl, hb⟩
    have hs2 := hb.size
    have HB2 := Lib.hid (show Below w.heap.size w w2 from bl_trans (by repeat (first | with_reducible exact HB1.out | with_reducible refine bl_drewN ?_ _ | with_reducible refine Below.drew ?_ | with_reducible refine bl_alloc ?_ _)) hb)
    have HDt2 := Lib.hid (show Below w1.heap.size w1 w2 from bl_trans (by repeat (first | with_reducible exact HDt1.out | with_reducible refine Below.drew ?_ | with_reducible refine bl_drewN ?_ _ | with_reducible refine bl_alloc ?_ _)) hb)
    clear hb HB1 HDt1
    go_wp2_with fail
    (try (go_quiet (fail); go_wp2_with fail))
    refine (sImp_is _ At _ ct ts ((HTt.out.below (by repeat (first | with_reducible exact HDt2.out | with_reducible refine Below.drew ?_ | with_reducible refine bl_drewN ?_ _ | with_reducible refine bl_alloc ?_ _) : Below w1.heap.size w1 _)).more (Below.size (by repeat (first | with_reducible exact HDt2.out | with_reducible refine Below.drew ?_ | with_reducible refine bl_drewN ?_ _ | with_reducible refine bl_alloc ?_ _) : Below w1.heap.size w1 _))) (by omega) false HI.out).mono ?_
    rintro e w3 ⟨rfl, hb⟩
    have hs3 := hb.size
    have HB3 := Lib.hid (show Below w.heap.size w w3 from bl_trans (by repeat (first | with_reducible exact HB2.out | with_reducible refine bl_drewN ?_ _ | with_reducible refine Below.drew ?_ | with_reducible refine bl_alloc ?_ _)) hb)
    have HDt3 := Lib.hid (show Below w1.heap.size w1 w3 from bl_trans (by repeat (first | with_reducible exact HDt2.out | with_reducible refine Below.drew ?_ | with_reducible refine bl_drewN ?_ _ | with_reducible refine bl_alloc ?_ _)) hb)
    clear hb HB2 HDt2
    go_wp2_with fail
    (try (go_quiet (fail); go_wp2_with fail))
    refine (sImp_is _ At _ ct ts ((HTt.out.below (by repeat (first | with_reducible exact HDt3.out | with_reducible refine Below.drew ?_ | with_reducible refine bl_drewN ?_ _ | with_reducible refine bl_alloc ?_ _) : Below w1.heap.size w1 _)).more (Below.size (by repeat (first | with_reducible exact HDt3.out | with_reducible refine Below.drew ?_ | with_reducible refine bl_drewN ?_ _ | with_reducible refine bl_alloc ?_ _) : Below w1.heap.size w1 _))) (by omega) false HI.out).mono ?_
    rintro e w4 ⟨rfl, hb⟩
    have hs4 := hb.size
    have HB4 := Lib.hid (show Below w.heap.size w w4 from bl_trans (by repeat (first | with_reducible exact HB3.out | with_reducible refine bl_drewN ?_ _ | with_reducible refine Below.drew ?_ | with_reducible refine bl_alloc ?_ _)) hb)
    have HDt4 := Lib.hid (show Below w1.heap.size w1 w4 from bl_trans (by repeat (first | with_reducible exact HDt3.out | with_reducible refine Below.drew ?_ | with_reducible refine bl_drewN ?_ _ | with_reducible refine bl_alloc ?_ _)) hb)
    clear hb HB3 HDt3
    go_wp2
    (try (go_quiet (fail); go_wp2))
    go_ret
    exact ⟨rfl, by repeat (first | with_reducible exact HB4.out | refine bl_drewN ?_ _ | refine Below.drew ?_ | refine bl_alloc ?_ _ | refine bl_set ?_ (by dsimp only; omega) _)⟩
  have HI := Lib.hid hi
  by_cases h0 : ts.length = 0
  · obtain rfl : ts = [] := List.eq_nil_of_length_eq_zero h0
    clear hi h0
    go_wp2_with fail
    (try (go_quiet (fail); go_wp2_with fail))
    refine (iImp_is _ At _ ct ([] : List Tk) ((HTt.out.below (by repeat (first | with_reducible exact HDt1.out | with_reducible refine Below.drew ?_ | with_reducible refine bl_drewN ?_ _ | with_reducible refine bl_alloc ?_ _) : Below w1.heap.size w1 _)).more (Below.size (by repeat (first | with_reducible exact HDt1.out | with_reducible refine Below.drew ?_ | with_reducible refine bl_drewN ?_ _ | with_reducible refine bl_alloc ?_ _) : Below w1.heap.size w1 _))) (by omega) true HI.out).mono ?_
    rintro e w2 ⟨rfl, hb⟩
    have hs2 := hb.size
    have HB2 := Lib.hid (show Below w.heap.size w w2 from bl_trans (by repeat (first | with_reducible exact HB1.out | with_reducible refine bl_drewN ?_ _ | with_reducible refine Below.drew ?_ | with_reducible refine bl_alloc ?_ _)) hb)
    have HDt2 := Lib.hid (show Below w1.heap.size w1 w2 from bl_trans (by repeat (first | with_reducible exact HDt1.out | with_reducible refine Below.drew ?_ | with_reducible refine bl_drewN ?_ _ | with_reducible refine bl_alloc ?_ _)) hb)
    clear hb HB1 HDt1
    go_wp2_with fail
    (try (go_quiet (fail); go_wp2_with fail))
    refine (sImp_is _ At _ ct ([] : List Tk) ((HTt.out.below (by repeat (first | with_reducible exact HDt2.out | with_reducible refine Below.drew ?_ | with_reducible refine bl_drewN ?_ _ | with_reducible refine bl_alloc ?_ _) : Below w1.heap.size w1 _)).more (Below.size (by repeat (first | with_reducible exact HDt2.out | with_reducible refine Below.drew ?_ | with_reducible refine bl_drewN ?_ _ | with_reducible refine bl_alloc ?_ _) : Below w1.heap.size w1 _))) (by omega) true HI.out).mono ?_
    rintro e w3 ⟨rfl, hb⟩
    have hs3 := hb.size
    have HB3 := Lib.hid (show Below w.heap.size w w3 from bl_trans (by repeat (first | with_reducible exact HB2.out | with_reducible refine bl_drewN ?_ _ | with_reducible refine Below.drew ?_ | with_reducible refine bl_alloc ?_ _)) hb)
    have HDt3 := Lib.hid (show Below w1.heap.size w1 w3 from bl_trans (by repeat (first | with_reducible exact HDt2.out | with_reducible refine Below.drew ?_ | with_reducible refine bl_drewN ?_ _ | with_reducible refine bl_alloc ?_ _)) hb)
    clear hb HB2 HDt2
    go_wp2_with fail
    (try (go_quiet (fail); go_wp2_with fail))
    refine (sImp_is _ At _ ct ([] : List Tk) ((HTt.out.below (by repeat (first | with_reducible exact HDt3.out | with_reducible refine Below.drew ?_ | with_reducible refine bl_drewN ?_ _ | with_reducible refine bl_alloc ?_ _) : Below w1.heap.size w1 _)).more (Below.size (by repeat (first | with_reducible exact HDt3.out | with_reducible refine Below.drew ?_ | with_reducible refine bl_drewN ?_ _ | with_reducible refine bl_alloc ?_ _) : Below w1.heap.size w1 _))) (by omega) true HI.out).mono ?_
    rintro e w4 ⟨rfl, hb⟩
    have hs4 := hb.size
    have HB4 := Lib.hid (show Below w.heap.size w w4 from bl_trans (by repeat (first | with_reducible exact HB3.out | with_reducible refine bl_drewN ?_ _ | with_reducible refine Below.drew ?_ | with_reducible refine bl_alloc ?_ _)) hb)
    have HDt4 := Lib.hid (show Below w1.heap.size w1 w4 from bl_trans (by repeat (first | with_reducible exact HDt3.out | with_reducible refine Below.drew ?_ | with_reducible refine bl_drewN ?_ _ | with_reducible refine bl_alloc ?_ _)) hb)
    clear hb HB3 HDt3
    go_wp2
    (try (go_quiet (fail); go_wp2))
    go_ret
    exact ⟨rfl, by repeat (first | with_reducible exact HB4.out | refine bl_drewN ?_ _ | refine Below.drew ?_ | refine bl_alloc ?_ _ | refine bl_set ?_ (by dsimp only; omega) _)⟩
  have hlt : 0 < ts.length := by omega
  obtain ⟨t, ht⟩ : ∃ t, ts[0]? = some t := ⟨ts[0], List.getElem?_eq_getElem hlt⟩
  have hT1 : ts.take 1 = [t] := by
    rcases ts with _ | ⟨u, r⟩
    · simp at hlt
    · simp at ht; simp [ht]
  have h1 : impB [t] = true := by rw [← hT1]; exact imp_take 1 hi
  have hp := one_plain h1
  have hv := virt_plain hp
  have hf := fac_plain hp
  obtain ⟨n1, n2, n3, n4⟩ := ok_nums (ok_of_set (imp_set hi) (List.mem_of_getElem? ht))
  have hdu := imp_all hi t (List.mem_of_getElem? ht)
  obtain ⟨dn, hdn⟩ : ∃ dn : Nat, t.du = (dn : Int) := ⟨t.du.toNat, by omega⟩
  have hdb : dueB [t] 0 = true := by unfold dueB atB; rw [hf]; simp
  have hdv : dueV [t] 0 = (dn, 1) := by
    have e := dueV_at (ts := [t]) (k := 0) hf (t := t) rfl
    have e2 : dueT [t] t = (dn, 1) := by rw [one_due h1, hdn]; rfl
    exact e.trans e2
  have h0b : ((ts.length : Int) == 0) = false := by rw [beq_eq_false_iff_ne]; omega
  have j1 : (1 : Int) ≤ (ts.length : Int) := by omega
  have j0 : (0 : Int) < (ts.length : Int) := by omega
  have j5 : 0 < ts.length := hlt
  have hne : ¬ ts = [] := fun e => by rw [e] at hlt; simp at hlt
  obtain ⟨gg, hAt, hcap⟩ : ∃ gg, At = some ⟨gg, 0, none⟩ ∧ ts.length ≤ ct := by
    rcases HO.out.2 with ⟨e, h0'⟩ | ⟨gg, cap, cur, e, _, _, h1, h2, _⟩
    · exact absurd h0' h0
    · injection e with e1 e2 e3
      subst e3
      exact ⟨gg, e1, h1⟩
  subst hAt
  have j3 : (ts.length : Int) ≤ (ct : Int) := by omega
  have j4 : (1 : Int) ≤ (ct : Int) := by omega
  obtain ⟨hgl, c0, c1, c2, c3, c4⟩ := Tks.get5 HTt.out ht
  simp only [Nat.zero_add, Nat.zero_mul] at c2
  rw [hdn] at c2
  have HX := Lib.hid c2
  have HV := Lib.hid (fun (W : World) (nn cc : Nat) (hnn : nn = 1) (hD : Below w1.heap.size w1 W) (hE : EG W e0) => iVirt_is W (some ⟨gg, 0, none⟩) nn cc [t] (by rw [hnn, ← hT1]; exact Tks.take ((HTt.out.below hD).more hD.size) (by omega)) (by omega) e0 hE true hv)
  have HP := Lib.hid (fun (W : World) (nn cc : Nat) (hnn : nn = 1) (hD : Below w1.heap.size w1 W) (hE : EG W e0) => iPlain_is W (some ⟨gg, 0, none⟩) nn cc [t] (by rw [hnn, ← hT1]; exact Tks.take ((HTt.out.below hD).more hD.size) (by omega)) (by omega) e0 hE true hp)
  have HD := Lib.hid (fun (W : World) (nn cc : Nat) (hnn : nn = 1) (hD : Below w1.heap.size w1 W) (hE : EG W e0) => iDue_is W (some ⟨gg, 0, none⟩) nn cc [t] (by rw [hnn, ← hT1]; exact Tks.take ((HTt.out.below hD).more hD.size) (by omega)) (by omega) e0 hE 0 dn 1 true hdv hdb)
  clear hi ht hT1 h1 hp hv hf n1 n2 n3 n4 hdu hdn hdb hdv c0 c1 c2 c3 c4 h0 hcap hlt
  go_wp2_with fail
  (try (go_quiet (fail); go_wp2_with fail))
  refine (iImp_is _ (some ⟨gg, 0, none⟩) _ ct ts ((HTt.out.below (by repeat (first | with_reducible exact HDt1.out | with_reducible refine Below.drew ?_ | with_reducible refine bl_drewN ?_ _ | with_reducible refine bl_alloc ?_ _) : Below w1.heap.size w1 _)).more (Below.size (by repeat (first | with_reducible exact HDt1.out | with_reducible refine Below.drew ?_ | with_reducible refine bl_drewN ?_ _ | with_reducible refine bl_alloc ?_ _) : Below w1.heap.size w1 _))) (by omega) true HI.out).mono ?_
  rintro e w2 ⟨rfl, hb⟩
  have hs2 := hb.size
  have HB2 := Lib.hid (show Below w.heap.size w w2 from bl_trans (by repeat (first | with_reducible exact HB1.out | with_reducible refine bl_drewN ?_ _ | with_reducible refine Below.drew ?_ | with_reducible refine bl_alloc ?_ _)) hb)
  have HDt2 := Lib.hid (show Below w1.heap.size w1 w2 from bl_trans (by repeat (first | with_reducible exact HDt1.out | with_reducible refine Below.drew ?_ | with_reducible refine bl_drewN ?_ _ | with_reducible refine bl_alloc ?_ _)) hb)
  clear hb HB1 HDt1
  go_wp2_with fail
  (try (go_quiet (fail); go_wp2_with fail))
  refine (sImp_is _ (some ⟨gg, 0, none⟩) _ ct ts ((HTt.out.below (by repeat (first | with_reducible exact HDt2.out | with_reducible refine Below.drew ?_ | with_reducible refine bl_drewN ?_ _ | with_reducible refine bl_alloc ?_ _) : Below w1.heap.size w1 _)).more (Below.size (by repeat (first | with_reducible exact HDt2.out | with_reducible refine Below.drew ?_ | with_reducible refine bl_drewN ?_ _ | with_reducible refine bl_alloc ?_ _) : Below w1.heap.size w1 _))) (by omega) true HI.out).mono ?_
  rintro e w3 ⟨rfl, hb⟩
  have hs3 := hb.size
  have HB3 := Lib.hid (show Below w.heap.size w w3 from bl_trans (by repeat (first | with_reducible exact HB2.out | with_reducible refine bl_drewN ?_ _ | with_reducible refine Below.drew ?_ | with_reducible refine bl_alloc ?_ _)) hb)
  have HDt3 := Lib.hid (show Below w1.heap.size w1 w3 from bl_trans (by repeat (first | with_reducible exact HDt2.out | with_reducible refine Below.drew ?_ | with_reducible refine bl_drewN ?_ _ | with_reducible refine bl_alloc ?_ _)) hb)
  clear hb HB2 HDt2
  go_wp2_with fail
  (try (go_quiet (fail); go_wp2_with fail))
  refine (HD.out _ 1 ct rfl (by repeat (first | with_reducible exact HDt3.out | with_reducible refine Below.drew ?_ | with_reducible refine bl_drewN ?_ _ | with_reducible refine bl_alloc ?_ _)) (by repeat (first | exact HE.out.below HB3.out | refine EG.drewN ?_ _ | refine EG.drew ?_ | refine EG.alloc ?_ _))).mono ?_
  rintro e w4 ⟨rfl, hb⟩
  have hs4 := hb.size
  have HB4 := Lib.hid (show Below w.heap.size w w4 from bl_trans (by repeat (first | with_reducible exact HB3.out | with_reducible refine bl_drewN ?_ _ | with_reducible refine Below.drew ?_ | with_reducible refine bl_alloc ?_ _)) hb)
  have HDt4 := Lib.hid (show Below w1.heap.size w1 w4 from bl_trans (by repeat (first | with_reducible exact HDt3.out | with_reducible refine Below.drew ?_ | with_reducible refine bl_drewN ?_ _ | with_reducible refine bl_alloc ?_ _)) hb)
  clear hb HB3 HDt3
  have hS4 := And.intro (((show Below w1.heap.size w1 (w4.alloc (.cells #[.int .i64 (dn : Int), .int .i64 1] 30)) from by repeat (first | with_reducible exact HDt4.out | with_reducible refine bl_alloc ?_ _)).cell (p := ⟨gg, 2, none⟩) hgl).trans HX.out) ((Blk.two (show Blk (w4.alloc (.cells #[.int .i64 (dn : Int), .int .i64 1] 30)) (w4.heap.size) 30 #[.int .i64 (dn : Int), .int .i64 1] from by have hh := Blk.new w4 30 #[.int .i64 (dn : Int), .int .i64 1]; (try simp only [World.size_alloc] at hh); repeat (first | exact hh | with_reducible refine Blk.alloc ?_ _))))
  go_wp2_with fail
  first
  | (go_region_held3 (fun W => W.cell? ⟨gg, 2, none⟩ = some (.int .i64 (dn : Int)) ∧ (W.cell? ⟨w4.heap.size, 0, none⟩ = some (.int .i64 (dn : Int)) ∧ W.cell? ⟨w4.heap.size, 1, none⟩ = some (.int .i64 1))) (first | exact hS4 | exact hS5 | exact hS6)
    ((first
      | (have uu := HB4; clear uu; go_at_call 16; refine (HV.out _ 1 ct rfl (by repeat (first | with_reducible exact HDt4.out | with_reducible refine Below.drew ?_ | with_reducible refine bl_drewN ?_ _ | with_reducible refine bl_alloc ?_ _)) (by repeat (first | exact HE.out.below HB4.out | refine EG.drewN ?_ _ | refine EG.drew ?_ | refine EG.alloc ?_ _))).mono ?_; rintro e w5 ⟨rfl, hb⟩; have hs5 := hb.size; have HB5 := Lib.hid (show Below w.heap.size w w5 from bl_trans (by repeat (first | with_reducible exact HB4.out | with_reducible refine bl_drewN ?_ _ | with_reducible refine Below.drew ?_ | with_reducible refine bl_alloc ?_ _)) hb); have bd5 := Lib.hid (show Blk w5 (w4.heap.size) 30 #[.int .i64 (dn : Int), .int .i64 1] from Blk.below (by have hh := Blk.new w4 30 #[.int .i64 (dn : Int), .int .i64 1]; (try simp only [World.size_alloc] at hh); repeat (first | exact hh | with_reducible refine Blk.drewN ?_ _ | with_reducible refine Blk.drew ?_ | with_reducible refine Blk.alloc ?_ _)) hb (by first | omega | (simp; done) | (simp; omega))); have cd := bd5.out.cell; have HDt5 := Lib.hid (show Below w1.heap.size w1 w5 from bl_trans (by repeat (first | with_reducible exact HDt4.out | with_reducible refine Below.drew ?_ | with_reducible refine bl_drewN ?_ _ | with_reducible refine bl_alloc ?_ _)) hb); have hS5 := And.intro ((HDt5.out.cell (p := ⟨gg, 2, none⟩) hgl).trans HX.out) (Blk.two bd5.out); clear hb HB4)
      | (have uu := HB5; clear uu; go_at_call 13; refine (HP.out _ 1 ct rfl (by repeat (first | with_reducible exact HDt5.out | with_reducible refine Below.drew ?_ | with_reducible refine bl_drewN ?_ _ | with_reducible refine bl_alloc ?_ _)) (by repeat (first | exact HE.out.below HB5.out | refine EG.drewN ?_ _ | refine EG.drew ?_ | refine EG.alloc ?_ _))).mono ?_; rintro e w6 ⟨rfl, hb⟩; have hs6 := hb.size; have HB6 := Lib.hid (show Below w.heap.size w w6 from bl_trans (by repeat (first | with_reducible exact HB5.out | with_reducible refine bl_drewN ?_ _ | with_reducible refine Below.drew ?_ | with_reducible refine bl_alloc ?_ _)) hb); have bd6 := Lib.hid (show Blk w6 (w4.heap.size) 30 #[.int .i64 (dn : Int), .int .i64 1] from Blk.below (by repeat (first | with_reducible exact bd5.out | with_reducible refine Blk.drewN ?_ _ | with_reducible refine Blk.drew ?_ | with_reducible refine Blk.alloc ?_ _)) hb (by have := bd5.out.lt; first | exact this | omega | (simp; omega))); have cd := bd6.out.cell; have HDt6 := Lib.hid (show Below w1.heap.size w1 w6 from bl_trans (by repeat (first | with_reducible exact HDt5.out | with_reducible refine Below.drew ?_ | with_reducible refine bl_drewN ?_ _ | with_reducible refine bl_alloc ?_ _)) hb); have hS6 := And.intro ((HDt6.out.cell (p := ⟨gg, 2, none⟩) hgl).trans HX.out) (Blk.two bd6.out); clear hb HB5))))
  | fail "no region"
  have hkd6 := bd6.out.lt
  have cd := bd6.out.cell
  go_wp2
  (try (go_quiet (fail); go_wp2))
  go_ret
  exact ⟨rfl, by repeat (first | with_reducible exact HB6.out | refine bl_drewN ?_ _ | refine Below.drew ?_ | refine bl_alloc ?_ _ | refine bl_set ?_ (by dsimp only; omega) _)⟩

end Go.Proofs.YtpngfonnoepmfabDoor
