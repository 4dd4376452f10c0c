import Derived.Deep.RegionHeld3
import Derived.Deep.Cut
import Derived.Test.YtgponahmkjohiabGreatDoorT1NC
import Derived.Test.YtgponahmkjohiabGreatDoorT1PmK
namespace Go.Proofs.YtgponahmkjohiabGreatDoor
open Go.RowKit
set_option linter.unusedVariables false
/-- What RunJobs leaves: a run whose three lists are the call's own, each in memory of its own. -/
def RunRes (s : Mc) (b : Bool) (w : World) (e : Ending) (w' : World) : Prop :=
  ∃ (A1 : Option Addr) (c1 : Nat) (A2 : Option Addr) (c2 : Nat) (A3 : Option Addr) (c3 : Nat), e = .returned (.tuple #[.agg #[.slice A1 s.en.length c1, .slice A2 s.tr.length c2, .slice A3 s.sw.length c3, .bool s.hi], .bool b]) ∧
    OwnZ w' w.heap.size (.slice A1 s.en.length c1) s.en ∧ OwnZ w' w.heap.size (.slice A2 s.tr.length c2) s.tr ∧ OwnZ w' w.heap.size (.slice A3 s.sw.length c3) s.sw ∧
    apart (.slice A1 s.en.length c1) (.slice A2 s.tr.length c2) ∧ apart (.slice A1 s.en.length c1) (.slice A3 s.sw.length c3) ∧ apart (.slice A2 s.tr.length c2) (.slice A3 s.sw.length c3) ∧ Below w.heap.size w w'
theorem Blk.quad {w : World} {g : Nat} {t : TypeId} {a b c d : Value} (h : Blk w g t #[a, b, c, d]) : w.cell? ⟨g, 0, none⟩ = some a ∧ w.cell? ⟨g, 1, none⟩ = some b ∧ w.cell? ⟨g, 2, none⟩ = some c ∧ w.cell? ⟨g, 3, none⟩ = some d := ⟨h.cell 0, h.cell 1, h.cell 2, h.cell 3⟩
theorem OwnZ.nil_ (w : World) (B : Nat) : OwnZ w B (.slice none 0 0) [] := ⟨rfl, .inl ⟨rfl, rfl⟩⟩
end Go.Proofs.YtgponahmkjohiabGreatDoor

namespace Go.Proofs.YtgponahmkjohiabGreatDoor
open Go.RowKit
set_option linter.unusedVariables false
set_option maxRecDepth 100000 in
set_option maxHeartbeats 8000000 in
theorem iRunJobs_is (w : World) (A : Option Addr) (n c : Nat) (ts : List Tk) (h : Tks w w.heap.size A n ts) (hn : n ≤ 1048576) (Aj : Option Addr) (nj cj : Nat) (js : List Jb) (hj : Jbs w w.heap.size Aj nj js) (pol tk : Int) (e0 : Addr) (he : EG w e0) :
    Calls Tryz.prog 13 #[.slice A n c, .slice Aj nj cj, .int .i64 pol, .int .i64 tk] w (RunRes (runR ts js pol tk) (okR ts js pol tk) w) := by
  obtain ⟨X, Y, hXY⟩ : ∃ X Y, polX ts pol = (X, Y) := ⟨_, _, rfl⟩
  obtain ⟨bp, hbp⟩ : ∃ bp, polB ts pol = bp := ⟨_, rfl⟩
  obtain ⟨bj, hbj⟩ : ∃ bj, jobsB ts js = bj := ⟨_, rfl⟩
  have hXl := polX_le ts pol
  rw [hXY] at hXl
  dsimp only at hXl
  obtain ⟨sF, hsF⟩ : ∃ sF, runR ts js pol tk = sF := ⟨_, rfl⟩
  obtain ⟨bF, hbF⟩ : ∃ bF, okR ts js pol tk = bF := ⟨_, rfl⟩
  rw [hsF, hbF]
  have HSF := Lib.hid hsF
  have HBF := Lib.hid hbF
  have HT := Lib.hid h
  have HJ := Lib.hid hj
  have HEG := Lib.hid he
  have HXY := Lib.hid hXY
  have HBP := Lib.hid hbp
  have HBJ := Lib.hid hbj
  have HZ0 := Lib.hid (Blk.new w 29 #[.slice none 0 0, .slice none 0 0, .slice none 0 0, .bool false])
  have HOK : Hid (okR ts js pol tk = (bj && (bp && (decide (0 ≤ tk) && decide (tk ≤ 200))))) := Lib.hid (by unfold okR; rw [hbj, hbp])
  have HNO : Hid (∀ (hx : okR ts js pol tk = false), runR ts js pol tk = noM) := Lib.hid (fun hx => runR_no hx)
  have HPO : Hid (poOf ts pol = ⟨pol == 1, (X : Int), (Y : Int)⟩) := Lib.hid (by unfold poOf; rw [hXY])
  have HJL := Lib.hid (fun hh : bj = true => (wrsB_iff.1 (jobs_wrs (hbj.trans hh))).1)
  clear h hj he hXY hbp hbj hsF hbF
  go_enter Tryz.func13, Tryz.ntmps13
  go_wp2_with fail
  refine (iJobs_is _ A n c ts ((HT.out.below (bl_alloc (Below.refl _ w) _)).more (by simp)) hn Aj nj cj js ((HJ.out.below (bl_alloc (Below.refl _ w) _)).more (by simp)) bj HBJ.out).mono ?_
  rintro e w2 ⟨rfl, hb⟩
  have hs2 : w.heap.size + 1 ≤ w2.heap.size := by have := hb.size; simp at this; omega
  have HB2 := Lib.hid (bl_trans (bl_alloc (Below.refl _ w) _) hb)
  have HR2 := Lib.hid (HZ0.out.below hb (by simp))
  clear hb
  obtain ⟨r0, r1, r2, r3⟩ := Blk.quad HR2.out
  have fr := HR2.out.frozen
  cases bj
  case false =>
    have hok : okR ts js pol tk = false := by rw [HOK.out]; rfl
    obtain rfl : sF = noM := by rw [← HSF.out, HNO.out hok]
    obtain rfl : bF = false := by rw [← HBF.out, hok]
    clear hok
    go_wp2
    have hZ := (((HR2.out.set_ 0 (.slice none 0 0)).set_ 1 (.slice none 0 0)).set_ 2 (.slice none 0 0)).set_ 3 (.bool false)
    obtain ⟨z0, z1, z2, z3⟩ := Blk.quad (w := ((((w2.setCell ⟨w.heap.size, 0, none⟩ (.slice none 0 0)).setCell ⟨w.heap.size, 1, none⟩ (.slice none 0 0)).setCell ⟨w.heap.size, 2, none⟩ (.slice none 0 0)).setCell ⟨w.heap.size, 3, none⟩ (.bool false))) hZ
    clear hZ
    refine bodyPost_ret (v := .tuple #[.agg #[.slice none 0 0, .slice none 0 0, .slice none 0 0, .bool false], .bool false]) (by simp [results, Tryz.results13, go_sem, z0, z1, z2, z3]) rfl ?_
    exact ⟨none, 0, none, 0, none, 0, rfl, OwnZ.nil_ _ _, OwnZ.nil_ _ _, OwnZ.nil_ _ _, (fun k e => (by cases e)), (fun k e => (by cases e)), (fun k e => (by cases e)), bl_set (bl_set (bl_set (bl_set HB2.out (by dsimp only; omega) _) (by dsimp only; omega) _) (by dsimp only; omega) _) (by dsimp only; omega) _⟩
  by_cases h0 : 0 ≤ tk
  case neg =>
    have hok : okR ts js pol tk = false := by rw [HOK.out]; simp [h0]
    have d0 : tk < 0 := by omega
    have e0 : decide (tk < 0) = true := decide_eq_true d0
    obtain rfl : sF = noM := by rw [← HSF.out, HNO.out hok]
    obtain rfl : bF = false := by rw [← HBF.out, hok]
    clear hok
    go_wp2
    have hZ := (((HR2.out.set_ 0 (.slice none 0 0)).set_ 1 (.slice none 0 0)).set_ 2 (.slice none 0 0)).set_ 3 (.bool false)
    obtain ⟨z0, z1, z2, z3⟩ := Blk.quad (w := ((((w2.setCell ⟨w.heap.size, 0, none⟩ (.slice none 0 0)).setCell ⟨w.heap.size, 1, none⟩ (.slice none 0 0)).setCell ⟨w.heap.size, 2, none⟩ (.slice none 0 0)).setCell ⟨w.heap.size, 3, none⟩ (.bool false))) hZ
    clear hZ
    refine bodyPost_ret (v := .tuple #[.agg #[.slice none 0 0, .slice none 0 0, .slice none 0 0, .bool false], .bool false]) (by simp [results, Tryz.results13, go_sem, z0, z1, z2, z3]) rfl ?_
    exact ⟨none, 0, none, 0, none, 0, rfl, OwnZ.nil_ _ _, OwnZ.nil_ _ _, OwnZ.nil_ _ _, (fun k e => (by cases e)), (fun k e => (by cases e)), (fun k e => (by cases e)), bl_set (bl_set (bl_set (bl_set HB2.out (by dsimp only; omega) _) (by dsimp only; omega) _) (by dsimp only; omega) _) (by dsimp only; omega) _⟩
  by_cases h2 : tk ≤ 200
  case neg =>
    have hok : okR ts js pol tk = false := by rw [HOK.out]; simp [h2]
    have d0 : ¬ tk < 0 := by omega
    have d1 : 200 < tk := by omega
    have e0 : decide (tk < 0) = false := decide_eq_false d0
    have e1 : decide (200 < tk) = true := decide_eq_true d1
    obtain rfl : sF = noM := by rw [← HSF.out, HNO.out hok]
    obtain rfl : bF = false := by rw [← HBF.out, hok]
    clear hok
    go_wp2
    have hZ := (((HR2.out.set_ 0 (.slice none 0 0)).set_ 1 (.slice none 0 0)).set_ 2 (.slice none 0 0)).set_ 3 (.bool false)
    obtain ⟨z0, z1, z2, z3⟩ := Blk.quad (w := ((((w2.setCell ⟨w.heap.size, 0, none⟩ (.slice none 0 0)).setCell ⟨w.heap.size, 1, none⟩ (.slice none 0 0)).setCell ⟨w.heap.size, 2, none⟩ (.slice none 0 0)).setCell ⟨w.heap.size, 3, none⟩ (.bool false))) hZ
    clear hZ
    refine bodyPost_ret (v := .tuple #[.agg #[.slice none 0 0, .slice none 0 0, .slice none 0 0, .bool false], .bool false]) (by simp [results, Tryz.results13, go_sem, z0, z1, z2, z3]) rfl ?_
    exact ⟨none, 0, none, 0, none, 0, rfl, OwnZ.nil_ _ _, OwnZ.nil_ _ _, OwnZ.nil_ _ _, (fun k e => (by cases e)), (fun k e => (by cases e)), (fun k e => (by cases e)), bl_set (bl_set (bl_set (bl_set HB2.out (by dsimp only; omega) _) (by dsimp only; omega) _) (by dsimp only; omega) _) (by dsimp only; omega) _⟩
  have d0 : ¬ tk < 0 := by omega
  have d1 : ¬ 200 < tk := by omega
  have e1 : decide (tk < 0) = false := decide_eq_false d0
  have e2 : decide (200 < tk) = false := decide_eq_false d1
  have h60 : js.length ≤ 60 := HJL.out rfl
  have HNM := Lib.hid (iNew_is w2 A n c ts ((HT.out.below HB2.out).more HB2.out.size) hn Aj nj cj js ((HJ.out.below HB2.out).more HB2.out.size) h60 pol e0 (HEG.out.below HB2.out) X Y bp HXY.out HBP.out)
  clear r0 r1 r2 r3
  go_wp2_with fail
  refine HNM.out.mono ?_
  rintro e w3 ⟨hb3, hnew⟩
  have HB3 := Lib.hid hb3
  have HR3 := Lib.hid (HR2.out.below hb3 (by omega))
  have hs3 := hb3.size
  clear hb3 HNM
  cases bp
  case false =>
    rw [if_neg (by decide)] at hnew
    subst hnew
    have hok : okR ts js pol tk = false := by rw [HOK.out]; rfl
    obtain rfl : sF = noM := by rw [← HSF.out, HNO.out hok]
    obtain rfl : bF = false := by rw [← HBF.out, hok]
    obtain ⟨r0, r1, r2, r3⟩ := Blk.quad HR3.out
    have fr3 := HR3.out.frozen
    have HB23 : Hid (Below w.heap.size w w3) := Lib.hid (blB HB2.out (by omega) HB3.out)
    clear hok
    go_wp2
    have hZ := (((HR3.out.set_ 0 (.slice none 0 0)).set_ 1 (.slice none 0 0)).set_ 2 (.slice none 0 0)).set_ 3 (.bool false)
    obtain ⟨z0, z1, z2, z3⟩ := Blk.quad (w := ((((w3.setCell ⟨w.heap.size, 0, none⟩ (.slice none 0 0)).setCell ⟨w.heap.size, 1, none⟩ (.slice none 0 0)).setCell ⟨w.heap.size, 2, none⟩ (.slice none 0 0)).setCell ⟨w.heap.size, 3, none⟩ (.bool false))) hZ
    clear hZ
    refine bodyPost_ret (v := .tuple #[.agg #[.slice none 0 0, .slice none 0 0, .slice none 0 0, .bool false], .bool false]) (by simp [results, Tryz.results13, go_sem, z0, z1, z2, z3]) rfl ?_
    exact ⟨none, 0, none, 0, none, 0, rfl, OwnZ.nil_ _ _, OwnZ.nil_ _ _, OwnZ.nil_ _ _, (fun k e => (by cases e)), (fun k e => (by cases e)), (fun k e => (by cases e)), bl_set (bl_set (bl_set (bl_set HB23.out (by dsimp only; omega) _) (by dsimp only; omega) _) (by dsimp only; omega) _) (by dsimp only; omega) _⟩
  rw [if_pos rfl] at hnew
  obtain ⟨M, g, F, K, ge, p, rfl, hps, hpe⟩ := hnew
  have hok : okR ts js pol tk = true := by rw [HOK.out]; simp [h0, h2]
  obtain rfl : bF = true := by rw [← HBF.out, hok]
  obtain ⟨T, hT⟩ : ∃ T : Nat, tk = (T : Int) := ⟨tk.toNat, by omega⟩
  subst hT
  have HEND : Hid (runM ts js ⟨pol == 1, (X : Int), (Y : Int)⟩ T = sF) := Lib.hid (by rw [← HSF.out, runR_ok hok, ← HPO.out]; rfl)
  have hT2 : T ≤ 200 := by omega
  have HPS := Lib.hid hps
  have HPE := Lib.hid hpe
  obtain ⟨P, hP⟩ : ∃ P : Po, (⟨pol == 1, (X : Int), (Y : Int)⟩ : Po) = P := ⟨_, rfl⟩
  rw [hP] at HPS HEND
  have z0 : 0 ≤ P.xn := by rw [← hP]; dsimp only; omega
  have z1 : P.xn ≤ 1000000000 := by rw [← hP]; dsimp only; omega
  have z2 : 0 ≤ P.xd := by rw [← hP]; dsimp only; omega
  have z3 : P.xd ≤ 1000000000 := by rw [← hP]; dsimp only; omega
  have hMB := hps.bM
  have hMl := hps.at_.lt
  clear hok HOK HNO HSF HBF hps hpe hP HPO h0 h2
  go_wp2
  clear d0 d1 e1 e2
  go_loopw [37] (fun i wr => ∃ (q : Nat) (d : Nat → Int) (p1 : Pm), q ≤ T ∧ i = .int .i64 (q : Int) ∧ Hid (PS wr w2.heap.size M A n c Aj nj cj P g F K (runM ts js P q) d p1) ∧ Hid (InvM ts js (q : Int) d (runM ts js P q)) ∧ Hid (∃ ge ce, p1.E = .slice (some ⟨ge, 0, none⟩) (runM ts js P q).en.length ce) ∧ Hid (Below w2.heap.size w3 wr)) (fun i _ => T - (intOf i).toNat)
  case atStart => exact ⟨0, fun _ => 0, p, Nat.zero_le _, rfl, HPS, Lib.hid (init_inv js ts), Lib.hid ⟨ge, js.length, by rw [HPE.out]; simp [runM, initM]⟩, Lib.hid ((Below.refl w3.heap.size w3).mono hs3)⟩
  case round =>
    obtain ⟨q, d, p1, hq, rfl, HS, HI, HEX, HBR⟩ := hrel
    have hwr : w2.heap.size ≤ wr.heap.size := by have := HBR.out.size; omega
    have HB2R : Hid (Below w2.heap.size w2 wr) := Lib.hid (HB3.out.trans HBR.out)
    by_cases hlt : q < T
    · have q1 : (q : Int) < (T : Int) := by omega
      have q0 : (0 : Int) ≤ (q : Int) := by omega
      have HTR : Hid ((runM ts js P q).tr.length ≤ 100000) := Lib.hid (by rw [tr_len HBJ.out q]; omega)
      have HSW : Hid ((runM ts js P q).sw.length ≤ 100000) := Lib.hid (by have := sw_len HI.out (by omega); omega)
      obtain ⟨g5, c5, h5⟩ := HEX.out
      have HST := Lib.hid (iStep_is wr w2.heap.size M A n c ts Aj nj cj js P g F K (runM ts js P q) d p1 hwr (((HT.out.below HB2.out).more HB2.out.size).below HB2R.out) (((HJ.out.below HB2.out).more HB2.out.size).below HB2R.out) HBJ.out HS.out (q : Int) HI.out g5 c5 h5 (by omega) (by omega) HTR.out HSW.out z0 z1 z2 z3)
      clear h5
      go_wp2_with fail
      refine HST.out.mono ?_
      rintro e w5 ⟨d5, hi5, p5, rfl, hs5, he5, hb5⟩
      have HS5 : Hid (PS w5 w2.heap.size M A n c Aj nj cj P g F K (runM ts js P (q + 1)) d5 p5) := Lib.hid hs5
      have HI5 : Hid (InvM ts js ((q + 1 : Nat) : Int) d5 (runM ts js P (q + 1))) := Lib.hid ((by omega : ((q + 1 : Nat) : Int) = (q : Int) + 1) ▸ hi5)
      have HE5 : Hid (∃ ge ce, p5.E = .slice (some ⟨ge, 0, none⟩) (runM ts js P (q + 1)).en.length ce) := Lib.hid he5
      have HB5 := Lib.hid (HBR.out.trans hb5)
      clear hi5 hs5 he5 hb5 HST
      go_wp2
      go_roundw
      case rel => exact ⟨q + 1, d5, p5, by omega, by go_num, HS5, HI5, HE5, HB5⟩
      case measure => simp [intOf]; omega
    · obtain rfl : q = T := by omega
      have HSF : Hid (PS wr w2.heap.size M A n c Aj nj cj P g F K sF d p1) := Lib.hid (by have h := HS.out; rw [HEND.out] at h; exact h)
      clear HS HI HEX HPS HPE
      obtain ⟨Ae, ce, eE⟩ := HSF.out.e.form
      obtain ⟨At, ct, eT⟩ := HSF.out.t.form
      obtain ⟨As, cs, eS⟩ := HSF.out.z.form
      have p126 := HSF.out.at_.c126
      have p127 := HSF.out.at_.c127
      have p128 := HSF.out.at_.c128
      have p129 := HSF.out.at_.c129
      have fM := HSF.out.at_.frozen
      rw [eE] at p126
      rw [eT] at p127
      rw [eS] at p128
      obtain ⟨l1, hl1⟩ : ∃ l, sF.en.length = l := ⟨_, rfl⟩
      obtain ⟨l2, hl2⟩ : ∃ l, sF.tr.length = l := ⟨_, rfl⟩
      obtain ⟨l3, hl3⟩ : ∃ l, sF.sw.length = l := ⟨_, rfl⟩
      rw [hl1] at p126
      rw [hl2] at p127
      rw [hl3] at p128
      have HRr : Hid (Blk wr w.heap.size 29 #[.slice none 0 0, .slice none 0 0, .slice none 0 0, .bool false]) := Lib.hid (HR3.out.below HBR.out (by omega))
      have HBwr : Hid (Below w.heap.size w wr) := Lib.hid ((HB2.out).trans ((HB2R.out).mono (by omega)))
      have HFIN : Hid (∀ W, Kp wr W (fun x => x = M ∨ x = w.heap.size) → RunRes sF true w (.returned (.tuple #[.agg #[.slice Ae l1 ce, .slice At l2 ct, .slice As l3 cs, .bool sF.hi], .bool true])) W) := Lib.hid (fun W hk => by
        have hbw : Below w.heap.size w W := HBwr.out.trans (hk.below (by omega) (fun x e => by rcases e with rfl | rfl; omega; exact Nat.le_refl _))
        have hn : ∀ (v : Value) (zs : List Int), OwnZ wr w2.heap.size v zs → v.ownBlock ≠ some M → OwnZ W w.heap.size v zs := fun v zs ho hv => (ho.kp hk (fun x e1 e2 => by
          have h1 := (World.ownsRow.lt ho x e1).1
          rcases e2 with rfl | rfl
          · exact hv e1
          · omega)).less (by omega)
        rw [← hl1, ← hl2, ← hl3]
        refine ⟨Ae, ce, At, ct, As, cs, rfl, ?_, ?_, ?_, ?_, ?_, ?_, hbw⟩
        · rw [← eE]; exact hn _ _ HSF.out.e HSF.out.eM
        · rw [← eT]; exact hn _ _ HSF.out.t HSF.out.tM
        · rw [← eS]; exact hn _ _ HSF.out.z HSF.out.zM
        · rw [← eE, ← eT]; exact HSF.out.et
        · rw [← eE, ← eS]; exact HSF.out.ez
        · rw [← eT, ← eS]; exact HSF.out.tz)
      clear hl1 hl2 hl3 eE eT eS
      have hRM : w.heap.size ≠ M := by omega
      cases hh : sF.hi
      · have p3 : wr.cell? ⟨M, 3, none⟩ = some (.iface 124 (.agg #[])) := by rw [HSF.out.at_.c3, HSF.out.mo, hh]; rfl
        have hm := m_hiL
        have HHH := Lib.hid hh
        rw [hh] at HFIN
        clear hh
        go_wp2_with fail
        refine (hiL_is wr).mono ?_
        rintro e w6 ⟨rfl, hb6⟩
        have HB6 := Lib.hid hb6
        have P6 := HSF.out.at_.bel hb6
        have P7 := Lib.hid (P6.sHi false)
        have f6 := P6.frozen
        have q129 := P6.c129
        have hs6 := hb6.size
        have qq : ∀ i : Nat, w6.cell? ⟨M, i, none⟩ = wr.cell? ⟨M, i, none⟩ := fun i => hb6.cell (p := ⟨M, i, none⟩) (by have := HSF.out.at_.lt; exact this)
        obtain ⟨w7, hw7⟩ : ∃ w7, w6.setCell ⟨M, 129, none⟩ (.bool false) = w7 := ⟨_, rfl⟩
        rw [hw7] at P7
        have s126 : w7.cell? ⟨M, 126, none⟩ = some (.slice Ae l1 ce) := P7.out.c126.trans (HSF.out.at_.c126.symm.trans p126)
        have s127 : w7.cell? ⟨M, 127, none⟩ = some (.slice At l2 ct) := P7.out.c127.trans (HSF.out.at_.c127.symm.trans p127)
        have s128 : w7.cell? ⟨M, 128, none⟩ = some (.slice As l3 cs) := P7.out.c128.trans (HSF.out.at_.c128.symm.trans p128)
        have s129 : w7.cell? ⟨M, 129, none⟩ = some (.bool false) := P7.out.c129
        have HR7 : Hid (Blk w7 w.heap.size 29 #[.slice none 0 0, .slice none 0 0, .slice none 0 0, .bool false]) := Lib.hid (by rw [← hw7]; exact (HRr.out.below hb6 HRr.out.lt).far (by dsimp only; omega) _)
        obtain ⟨r0, r1, r2, r3⟩ := Blk.quad HR7.out
        have fr7 := HR7.out.frozen
        have HK7 : Hid (Kp wr w7 (fun x => x = M ∨ x = w.heap.size)) := Lib.hid (by rw [← hw7]; exact Kp.set (S := fun x => x = M ∨ x = w.heap.size) (a := ⟨M, 129, none⟩) (kp_of_bel hb6) (.inl (.inl rfl)) _)
        clear hb6 P6 p126 p127 p128 p129 fM qq p3
        go_wp2
        have hZ := (((HR7.out.set_ 0 (.slice Ae l1 ce)).set_ 1 (.slice At l2 ct)).set_ 2 (.slice As l3 cs)).set_ 3 (.bool false)
        obtain ⟨z0, z1, z2, z3⟩ := Blk.quad (w := ((((w7.setCell ⟨w.heap.size, 0, none⟩ (.slice Ae l1 ce)).setCell ⟨w.heap.size, 1, none⟩ (.slice At l2 ct)).setCell ⟨w.heap.size, 2, none⟩ (.slice As l3 cs)).setCell ⟨w.heap.size, 3, none⟩ (.bool false))) hZ
        clear hZ
        refine bodyPost_ret (v := .tuple #[.agg #[.slice Ae l1 ce, .slice At l2 ct, .slice As l3 cs, .bool false], .bool true]) (by simp [results, Tryz.results13, go_sem, z0, z1, z2, z3]) rfl ?_
        exact HFIN.out _ (Kp.set (S := fun x => x = M ∨ x = w.heap.size) (a := ⟨w.heap.size, 3, none⟩) (Kp.set (S := fun x => x = M ∨ x = w.heap.size) (a := ⟨w.heap.size, 2, none⟩) (Kp.set (S := fun x => x = M ∨ x = w.heap.size) (a := ⟨w.heap.size, 1, none⟩) (Kp.set (S := fun x => x = M ∨ x = w.heap.size) (a := ⟨w.heap.size, 0, none⟩) HK7.out (.inl (.inr rfl)) _) (.inl (.inr rfl)) _) (.inl (.inr rfl)) _) (.inl (.inr rfl)) _)
      · have p3 : wr.cell? ⟨M, 3, none⟩ = some (.iface 162 (.agg #[])) := by rw [HSF.out.at_.c3, HSF.out.mo, hh]; rfl
        have hm := m_hiH
        have HHH := Lib.hid hh
        rw [hh] at HFIN
        clear hh
        go_wp2_with fail
        refine (hiH_is wr).mono ?_
        rintro e w6 ⟨rfl, hb6⟩
        have HB6 := Lib.hid hb6
        have P6 := HSF.out.at_.bel hb6
        have P7 := Lib.hid (P6.sHi true)
        have f6 := P6.frozen
        have q129 := P6.c129
        have hs6 := hb6.size
        have qq : ∀ i : Nat, w6.cell? ⟨M, i, none⟩ = wr.cell? ⟨M, i, none⟩ := fun i => hb6.cell (p := ⟨M, i, none⟩) (by have := HSF.out.at_.lt; exact this)
        obtain ⟨w7, hw7⟩ : ∃ w7, w6.setCell ⟨M, 129, none⟩ (.bool true) = w7 := ⟨_, rfl⟩
        rw [hw7] at P7
        have s126 : w7.cell? ⟨M, 126, none⟩ = some (.slice Ae l1 ce) := P7.out.c126.trans (HSF.out.at_.c126.symm.trans p126)
        have s127 : w7.cell? ⟨M, 127, none⟩ = some (.slice At l2 ct) := P7.out.c127.trans (HSF.out.at_.c127.symm.trans p127)
        have s128 : w7.cell? ⟨M, 128, none⟩ = some (.slice As l3 cs) := P7.out.c128.trans (HSF.out.at_.c128.symm.trans p128)
        have s129 : w7.cell? ⟨M, 129, none⟩ = some (.bool true) := P7.out.c129
        have HR7 : Hid (Blk w7 w.heap.size 29 #[.slice none 0 0, .slice none 0 0, .slice none 0 0, .bool false]) := Lib.hid (by rw [← hw7]; exact (HRr.out.below hb6 HRr.out.lt).far (by dsimp only; omega) _)
        obtain ⟨r0, r1, r2, r3⟩ := Blk.quad HR7.out
        have fr7 := HR7.out.frozen
        have HK7 : Hid (Kp wr w7 (fun x => x = M ∨ x = w.heap.size)) := Lib.hid (by rw [← hw7]; exact Kp.set (S := fun x => x = M ∨ x = w.heap.size) (a := ⟨M, 129, none⟩) (kp_of_bel hb6) (.inl (.inl rfl)) _)
        clear hb6 P6 p126 p127 p128 p129 fM qq p3
        go_wp2
        have hZ := (((HR7.out.set_ 0 (.slice Ae l1 ce)).set_ 1 (.slice At l2 ct)).set_ 2 (.slice As l3 cs)).set_ 3 (.bool true)
        obtain ⟨z0, z1, z2, z3⟩ := Blk.quad (w := ((((w7.setCell ⟨w.heap.size, 0, none⟩ (.slice Ae l1 ce)).setCell ⟨w.heap.size, 1, none⟩ (.slice At l2 ct)).setCell ⟨w.heap.size, 2, none⟩ (.slice As l3 cs)).setCell ⟨w.heap.size, 3, none⟩ (.bool true))) hZ
        clear hZ
        refine bodyPost_ret (v := .tuple #[.agg #[.slice Ae l1 ce, .slice At l2 ct, .slice As l3 cs, .bool true], .bool true]) (by simp [results, Tryz.results13, go_sem, z0, z1, z2, z3]) rfl ?_
        exact HFIN.out _ (Kp.set (S := fun x => x = M ∨ x = w.heap.size) (a := ⟨w.heap.size, 3, none⟩) (Kp.set (S := fun x => x = M ∨ x = w.heap.size) (a := ⟨w.heap.size, 2, none⟩) (Kp.set (S := fun x => x = M ∨ x = w.heap.size) (a := ⟨w.heap.size, 1, none⟩) (Kp.set (S := fun x => x = M ∨ x = w.heap.size) (a := ⟨w.heap.size, 0, none⟩) HK7.out (.inl (.inr rfl)) _) (.inl (.inr rfl)) _) (.inl (.inr rfl)) _) (.inl (.inr rfl)) _)
end Go.Proofs.YtgponahmkjohiabGreatDoor

namespace Go.Proofs.YtgponahmkjohiabGreatDoor
theorem le_add' {a b : Nat × Nat} (ha : 0 < a.2) (hb : 0 < b.2) : leN b (addN a b) := by rw [add_comm]; exact le_add hb ha
theorem set_pos {ts : List Tk} (h : setB ts = true) : 0 < (lowOf ts false).2 ∧ 0 < (lowOf ts true).2 ∧ 0 < (highOf ts).2 :=
  let V := vb_of h
  ⟨V.a2, V.b2, V.h2⟩
/-- The factor: where it is one, and what it is otherwise. -/
theorem fac_red {ts : List Tk} (h : facB ts = true) (hp : plainV ts = false) :
    (facV ts).1 * ((lowOf ts true).2 * ((lowOf ts false).2 - (lowOf ts false).1)) = (lowOf ts true).1 * (lowOf ts false).2 * (facV ts).2 := by
  rw [facV_some h hp]
  exact red_same _ _
/-- The factor is at least the share of critical low needs. -/
theorem fac_low {ts : List Tk} (h : facB ts = true) : leN (lowOf ts true) (facV ts) := by
  have hs := imp_set (fac_imp h)
  obtain ⟨a2, b2, h2⟩ := set_pos hs
  cases hp : plainV ts
  · have hlt := fac_lt h hp
    have e := fac_red h hp
    unfold leN
    refine Nat.le_of_mul_le_mul_right ?_ (show 0 < (lowOf ts false).2 - (lowOf ts false).1 by omega)
    calc (lowOf ts true).1 * (facV ts).2 * ((lowOf ts false).2 - (lowOf ts false).1) ≤ (lowOf ts true).1 * (facV ts).2 * (lowOf ts false).2 := Nat.mul_le_mul_left _ (by omega)
      _ = (lowOf ts true).1 * (lowOf ts false).2 * (facV ts).2 := by ac_rfl
      _ = (facV ts).1 * ((lowOf ts true).2 * ((lowOf ts false).2 - (lowOf ts false).1)) := e.symm
      _ = (facV ts).1 * (lowOf ts true).2 * ((lowOf ts false).2 - (lowOf ts false).1) := by ac_rfl
  · rw [facV_plain hp]
    exact le_trans' h2 (low_le_high hs) (le_trans' (add_pos a2 h2) (le_add' a2 h2) (plain_le hp))
/-- A critical task needs something, so the factor is no zero. -/
theorem fac_pos {ts : List Tk} (h : facB ts = true) {t : Tk} (ht : t ∈ ts) (hc : t.cr = true) : 0 < (facV ts).1 := by
  have hs := imp_set (fac_imp h)
  obtain ⟨_, hok⟩ := setB_all hs
  have hl := fac_low h
  have hd := (facV_sh h).1.pos
  have hb : 0 < (lowOf ts true).1 := by
    have e : lowOf ts true = sumN ((ts.filter fun t => t.cr == true).map part) := by unfold lowOf lowL; rw [if_pos hs]
    rw [e]
    have hz := sum_zero (xs := (ts.filter fun t => t.cr == true).map part) (fun x hx => by
      obtain ⟨u, hu, rfl⟩ := List.mem_map.1 hx
      obtain ⟨p1, _, _, p4⟩ := part_facts (hok u (List.mem_filter.1 hu).1)
      exact ⟨p4, p1⟩)
    have hne : ¬ (ts.filter fun t => t.cr == true).map part = [] := by
      intro e
      have : t ∈ ts.filter fun t => t.cr == true := List.mem_filter.2 ⟨ht, by simp [hc]⟩
      rw [List.map_eq_nil_iff.1 e] at this
      cases this
    exact Nat.pos_of_ne_zero fun e => hne (hz.1 e)
  unfold leN at hl
  rcases Nat.eq_zero_or_pos (facV ts).1 with h0 | h0
  · rw [h0, Nat.zero_mul] at hl
    exact absurd hl (Nat.not_le.2 (Nat.mul_pos hb hd))
  · exact h0
end Go.Proofs.YtgponahmkjohiabGreatDoor

namespace Go.Proofs.YtgponahmkjohiabGreatDoor
open Go.RowKit
set_option linter.unusedVariables false
/-- Whether a task holds in both modes behind other tasks. -/
def bothL (xs : List Tk) (t : Tk) : Bool :=
  match respOf xs t.lo.toNat t.du.toNat with
  | none => false
  | some l => !t.cr || (swiOf xs l t.hi.toNat t.du.toNat).isSome
theorem both_is {ts : List Tk} {k : Nat} {t : Tk} (hs : setB ts = true) (ht : ts[k]? = some t) : bothAt ts k = bothL (ts.take k) t := by
  unfold bothL
  have hr := rLow_at hs ht
  cases hc : t.cr
  · rw [both_no ht hc, hr]
    cases respOf (ts.take k) t.lo.toNat t.du.toNat <;> rfl
  · rw [both_cr ht hc]
    cases hx : respOf (ts.take k) t.lo.toNat t.du.toNat with
    | none => rw [rSwi_none (hr.trans hx)]; rfl
    | some l => rw [rSwi_at (hr.trans hx) ht hc]; simp
def Holds (ts : List Tk) : Prop := ∀ k t, ts[k]? = some t → bothL (ts.take k) t = true
theorem hBoth_holds {ts : List Tk} : hBoth ts = true ↔ setB ts = true ∧ Holds ts := by
  rw [hBoth_iff]
  constructor
  · rintro ⟨h1, h2⟩
    exact ⟨h1, fun k t ht => by rw [← both_is h1 ht]; exact h2 k (List.getElem?_eq_some_iff.1 ht).1⟩
  · rintro ⟨h1, h2⟩
    refine ⟨h1, fun k hk => ?_⟩
    obtain ⟨t, ht⟩ := get_at (n := ts.length) rfl hk
    rw [both_is h1 ht]
    exact h2 k t ht
theorem sum_perm_nat {f : Tk → Nat} {xs ys : List Tk} (h : xs.Perm ys) : (xs.map f).sum = (ys.map f).sum := (h.map f).sum_nat
theorem bothL_perm {xs ys : List Tk} (h : xs.Perm ys) (t : Tk) : bothL xs t = bothL ys t := by
  unfold bothL respOf swiOf dLow dSwi
  simp only [sum_perm_nat h]
theorem holds_nil : Holds [] := fun k t h => by simp at h
theorem holds_snoc {xs : List Tk} {t : Tk} : Holds (xs ++ [t]) ↔ Holds xs ∧ bothL xs t = true := by
  constructor
  · intro h
    refine ⟨fun k u hu => ?_, ?_⟩
    · have hk := (List.getElem?_eq_some_iff.1 hu).1
      have := h k u (by rw [List.getElem?_append_left hk]; exact hu)
      rwa [List.take_append_of_le_length (by omega)] at this
    · have := h xs.length t (by simp)
      rwa [List.take_left] at this
  · rintro ⟨h1, h2⟩ k u hu
    rcases Nat.lt_or_ge k xs.length with hk | hk
    · rw [List.getElem?_append_left hk] at hu
      rw [List.take_append_of_le_length (by omega)]
      exact h1 k u hu
    · rw [List.getElem?_append_right hk] at hu
      have hk2 : k - xs.length = 0 := by
        have := (List.getElem?_eq_some_iff.1 hu).1
        simp at this; omega
      rw [hk2] at hu
      simp at hu
      subst hu
      obtain rfl : k = xs.length := by omega
      rw [List.take_left]; exact h2
theorem holds_perm_last {xs ys : List Tk} {t : Tk} (h : xs.Perm ys) (hx : Holds xs) (hb : bothL ys t = true) : Holds (xs ++ [t]) := holds_snoc.2 ⟨hx, by rw [bothL_perm h]; exact hb⟩
/-- Whether a task can be last. -/
def canL (ts : List Tk) (k : Nat) : Bool :=
  match ts[k]? with
  | some t => setB ts && bothL (ts.eraseIdx k) t
  | none => false
def endOf (ts : List Tk) (k : Nat) (t : Tk) : List Tk := ts.eraseIdx k ++ [t]
theorem erase_perm {ts : List Tk} {k : Nat} {t : Tk} (h : ts[k]? = some t) : (t :: ts.eraseIdx k).Perm ts := by
  obtain ⟨hk, rfl⟩ := List.getElem?_eq_some_iff.1 h
  rw [List.eraseIdx_eq_take_drop_succ]
  have : ts = ts.take k ++ ts[k] :: ts.drop (k + 1) := by rw [← List.drop_eq_getElem_cons hk, List.take_append_drop]
  exact (List.perm_middle.symm).trans (List.Perm.of_eq this.symm)
theorem end_perm {ts : List Tk} {k : Nat} {t : Tk} (h : ts[k]? = some t) : (endOf ts k t).Perm ts := List.perm_append_comm.trans (erase_perm h)
theorem set_perm {xs ys : List Tk} (h : xs.Perm ys) : setB xs = setB ys := by
  unfold setB
  rw [h.length_eq]
  congr 1
  rw [Bool.eq_iff_iff, List.all_eq_true, List.all_eq_true]
  exact ⟨fun g x hx => g x (h.mem_iff.2 hx), fun g x hx => g x (h.mem_iff.1 hx)⟩
theorem end_last {ts : List Tk} {k : Nat} {t : Tk} (h : ts[k]? = some t) : (endOf ts k t)[ts.length - 1]? = some t ∧ (endOf ts k t).take (ts.length - 1) = ts.eraseIdx k ∧ (endOf ts k t).length = ts.length := by
  have hk := (List.getElem?_eq_some_iff.1 h).1
  have hl : (ts.eraseIdx k).length = ts.length - 1 := by rw [List.length_eraseIdx, if_pos hk]
  unfold endOf
  refine ⟨?_, ?_, ?_⟩
  · rw [List.getElem?_append_right (by omega), hl, Nat.sub_self]; rfl
  · rw [← hl, List.take_left]
  · rw [List.length_append, hl]; simp; omega
theorem can_end {ts : List Tk} {k : Nat} {t : Tk} (hs : setB ts = true) (h : ts[k]? = some t) : canL ts k = bothAt (endOf ts k t) (ts.length - 1) := by
  obtain ⟨h1, h2, _⟩ := end_last h
  rw [both_is (by rw [set_perm (end_perm h)]; exact hs) h1, h2]
  unfold canL
  rw [h, hs]; rfl
theorem can_bad {ts : List Tk} (k : Nat) (hs : setB ts = false) : canL ts k = false := by unfold canL; split <;> simp [hs]
theorem can_past {ts : List Tk} {k : Nat} (h : ts[k]? = none) : canL ts k = false := by unfold canL; rw [h]
theorem can_at {ts : List Tk} {k : Nat} {t : Tk} (hs : setB ts = true) (h : ts[k]? = some t) : canL ts k = bothL (ts.eraseIdx k) t := by unfold canL; rw [h, hs]; rfl
/-- Tasks in an order. -/
instance : Inhabited Tk := ⟨⟨0, 0, 0, 0, false⟩⟩
def putN (ts : List Tk) (o : List Nat) : List Tk := o.map fun i => ts.getD i default
theorem put_range (ts : List Tk) : putN ts (List.range ts.length) = ts := by
  refine List.ext_getElem? fun i => ?_
  unfold putN
  rw [List.getElem?_map]
  rcases Nat.lt_or_ge i ts.length with h | h
  · rw [List.getElem?_range h, Option.map_some, List.getD_eq_getElem?_getD, List.getElem?_eq_getElem h]; rfl
  · rw [List.getElem?_eq_none (by simpa using h), List.getElem?_eq_none h]; rfl
theorem put_perm {ts : List Tk} {o p : List Nat} (h : o.Perm p) : (putN ts o).Perm (putN ts p) := h.map _
theorem put_len (ts : List Tk) (o : List Nat) : (putN ts o).length = o.length := by simp [putN]
theorem put_all {ts : List Tk} {o : List Nat} (h : o.Perm (List.range ts.length)) : (putN ts o).Perm ts := (put_perm h).trans (List.Perm.of_eq (put_range ts))
theorem put_erase (ts : List Tk) (o : List Nat) (k : Nat) : putN ts (o.eraseIdx k) = (putN ts o).eraseIdx k := by
  unfold putN
  rw [List.eraseIdx_eq_take_drop_succ, List.eraseIdx_eq_take_drop_succ, List.map_append, List.map_take, List.map_drop]
theorem put_app (ts : List Tk) (o p : List Nat) : putN ts (o ++ p) = putN ts o ++ putN ts p := by simp [putN]
/-- The last place that can be last. -/
def pickL (ts : List Tk) (left : List Nat) : Option Nat := (List.range left.length).reverse.find? fun i => canL (putN ts left) i
def asg (ts : List Tk) : Nat → List Nat → List Nat → Option (List Nat)
  | 0, _, acc => some acc
  | n + 1, left, acc =>
    match pickL ts left with
    | none => none
    | some i => asg ts n (left.eraseIdx i) (left.getD i 0 :: acc)
def assignOf (ts : List Tk) : Option (List Nat) := if setB ts then asg ts ts.length (List.range ts.length) [] else none
theorem find_rev {p : Nat → Bool} : ∀ {n i : Nat}, (List.range n).reverse.find? p = some i ↔ i < n ∧ p i = true ∧ ∀ j, i < j → j < n → p j = false
  | 0, i => by simp
  | n + 1, i => by
    rw [List.range_succ, List.reverse_append, List.reverse_singleton, List.singleton_append, List.find?_cons]
    cases hp : p n
    · rw [find_rev (n := n)]
      constructor
      · rintro ⟨h1, h2, h3⟩
        refine ⟨by omega, h2, fun j hj hn => ?_⟩
        rcases Nat.lt_or_ge j n with h | h
        · exact h3 j hj h
        · obtain rfl : j = n := by omega
          exact hp
      · rintro ⟨h1, h2, h3⟩
        have : i ≠ n := by rintro rfl; rw [hp] at h2; cases h2
        exact ⟨by omega, h2, fun j hj hn => h3 j hj (by omega)⟩
    · simp only [Option.some.injEq]
      constructor
      · rintro rfl; exact ⟨by omega, hp, fun j h1 h2 => by omega⟩
      · rintro ⟨h1, h2, h3⟩
        rcases Nat.lt_or_ge i n with h | h
        · have := h3 n h (by omega); rw [hp] at this; cases this
        · omega
theorem pick_some {ts : List Tk} {left : List Nat} {i : Nat} (h : pickL ts left = some i) : i < left.length ∧ canL (putN ts left) i = true ∧ ∀ j, i < j → j < left.length → canL (putN ts left) j = false := find_rev.1 h
theorem nat_erase {l : List Nat} {k x : Nat} (h : l[k]? = some x) : (x :: l.eraseIdx k).Perm l := by
  obtain ⟨hk, rfl⟩ := List.getElem?_eq_some_iff.1 h
  rw [List.eraseIdx_eq_take_drop_succ]
  have : l = l.take k ++ l[k] :: l.drop (k + 1) := by rw [← List.drop_eq_getElem_cons hk, List.take_append_drop]
  exact (List.perm_middle.symm).trans (List.Perm.of_eq this.symm)
theorem nat_at {l : List Nat} {k : Nat} (h : k < l.length) : l[k]? = some (l.getD k 0) := by
  rw [List.getD_eq_getElem?_getD, List.getElem?_eq_getElem h]; rfl
/-- What is found holds. -/
theorem asg_some (ts : List Tk) : ∀ {n : Nat} {left acc o : List Nat}, left.length = n → asg ts n left acc = some o → ∃ p, o = p ++ acc ∧ p.Perm left ∧ Holds (putN ts p)
  | 0, left, acc, o, hn, h => by
    obtain rfl : left = [] := List.eq_nil_of_length_eq_zero hn
    exact ⟨[], by simpa [asg] using h.symm, List.Perm.refl _, holds_nil⟩
  | n + 1, left, acc, o, hn, h => by
    unfold asg at h
    cases hp : pickL ts left with
    | none => rw [hp] at h; cases h
    | some i =>
      rw [hp] at h
      obtain ⟨hi, hc, _⟩ := pick_some hp
      have hx := nat_at hi
      have hlen : (left.eraseIdx i).length = n := by rw [List.length_eraseIdx, if_pos hi]; omega
      obtain ⟨p, rfl, h2, h3⟩ := asg_some ts hlen h
      have hs : setB (putN ts left) = true := by
        cases hs : setB (putN ts left)
        · rw [can_bad _ hs] at hc; cases hc
        · rfl
      have hget : (putN ts left)[i]? = some (ts.getD (left.getD i 0) default) := by unfold putN; rw [List.getElem?_map, hx]; rfl
      rw [can_at hs hget, ← put_erase] at hc
      refine ⟨p ++ [left.getD i 0], by simp, ?_, ?_⟩
      · exact (List.perm_append_comm.trans (h2.cons _)).trans (nat_erase hx)
      · rw [put_app]
        exact holds_perm_last (put_perm h2) h3 hc
theorem assign_some {ts : List Tk} {o : List Nat} (h : assignOf ts = some o) : setB ts = true ∧ o.Perm (List.range ts.length) ∧ Holds (putN ts o) := by
  unfold assignOf at h
  cases hs : setB ts
  · rw [hs] at h; cases h
  · rw [if_pos hs] at h
    obtain ⟨p, rfl, h1, h2⟩ := asg_some ts (by simp) h
    rw [List.append_nil]
    exact ⟨rfl, h1, h2⟩
end Go.Proofs.YtgponahmkjohiabGreatDoor

namespace Go.Proofs.YtgponahmkjohiabGreatDoor
open Go.RowKit
set_option linter.unusedVariables false
/-- The numbers are places of the tasks. -/
def InL (ts : List Tk) (o : List Nat) : Prop := ∀ i ∈ o, i < ts.length
theorem put_take {ts : List Tk} {o : List Nat} {k x : Nat} {t : Tk} (h : o[k]? = some x) (ht : ts[x]? = some t) : putN ts (o.take (k + 1)) = putN ts (o.take k) ++ [t] := by
  rw [List.take_add_one, h, put_app]
  congr 1
  show [ts.getD x default] = [t]
  rw [List.getD_eq_getElem?_getD, ht]; rfl
theorem toZ_get {o : List Nat} {k x : Nat} (h : o[k]? = some x) : (toZ o)[k]? = some (x : Int) := by unfold toZ; rw [List.getElem?_map, h]; rfl
set_option maxRecDepth 100000 in
set_option maxHeartbeats 2000000 in
theorem sPut_is (w : World) (A : Option Addr) (n c : Nat) (ts : List Tk) (A2 : Option Addr) (n2 c2 : Nat) (o : List Nat) (h : Tks w w.heap.size A n ts) (h2 : Zs w w.heap.size A2 n2 (toZ o)) (ho : InL ts o) (hl : o.length ≤ 100) :
    Calls Tryz.prog 157 #[.slice A n c, .slice A2 n2 c2] w (LsRes (putN ts o) w) := by
  obtain ⟨i0, hi, hz0, hz1, hz2⟩ := info_parts info_task
  have H := Lib.hid h
  have H2 := Lib.hid h2
  have HL := Lib.hid h.len
  have HL2 : Hid (o.length = n2) := by show _ = _; rw [← toZ_len]; exact h2.len
  have HI := Lib.hid ho
  clear h h2 ho
  have hn2 : n2 ≤ 100 := by rw [← HL2.out]; exact hl
  go_enter Tryz.func157, Tryz.ntmps157
  go_wp2
  go_loopw [5, 6] (fun v i wr => ∃ k : Nat, k ≤ n2 ∧ i = .int .i64 k ∧ Own wr w.heap.size v (putN ts (o.take k)) ∧ Below w.heap.size w wr) (fun _ i _ => n2 - (intOf i).toNat)
  case atStart => exact ⟨0, Nat.zero_le _, rfl, Own.empty w, bl_alloc (Below.refl _ _) _⟩
  case round =>
    obtain ⟨k, hk, rfl, ho, hb⟩ := hrel
    have HO := Lib.hid ho
    have HB := Lib.hid hb
    have hsz : w.heap.size ≤ wr.heap.size := hb.size
    clear ho hb
    by_cases hlt : k < n2
    · have hlti : (k : Int) < (n2 : Int) := by omega
      obtain ⟨x, hx⟩ : ∃ x, o[k]? = some x := ⟨o[k]'(by rw [HL2.out]; exact hlt), List.getElem?_eq_getElem _⟩
      obtain ⟨b2, o2, rfl, hb2, g0⟩ := (H2.out.below HB.out).at_ k _ (toZ_get hx)
      have hxn : x < n := by rw [← HL.out]; exact HI.out x (List.mem_of_getElem? hx)
      have hxi : (x : Int) < (n : Int) := by omega
      obtain ⟨t, ht⟩ : ∃ t, ts[x]? = some t := ⟨ts[x]'(by rw [HL.out]; exact hxn), List.getElem?_eq_getElem _⟩
      obtain ⟨b, of, rfl, hbl, c0, c1, c2', c3, c4⟩ := (H.out.below HB.out).at_ x t ht
      have HT := Lib.hid (put_take hx ht)
      have hlen : (putN ts (o.take k)).length ≤ 100 := by rw [put_len, List.length_take]; omega
      clear hx ht
      obtain ⟨lo, hi', du, ev, cr⟩ := t
      dsimp only at c0 c1 c2' c3 c4
      have b1 : (putN ts (o.take k)).length + 1 ≤ maxLen := by unfold maxLen; omega
      have b2' : ((putN ts (o.take k)).length + 1) * 40 ≤ 140737488355328 := by omega
      go_wp2_with (at_builtin; refine wpList_append_own _ rfl (.tmp 14) (.tmp 22) 23 rfl w.heap.size 43 i0 _ 5 40 Tryz.underlying23 hi hz0 hz1 hz2 rfl (by decide) _ (putN ts (o.take k)).length ((putN ts (o.take k)).flatMap Tk.cells) rfl (HO.out.alloc _) ⟨wr.heap.size, 0, none⟩ 1 1 (Tk.cells ⟨lo, hi', du, ev, cr⟩) rfl rfl (cell_new5 _ ⟨lo, hi', du, ev, cr⟩ _) (by intro u hu; exact cells_one [⟨lo, hi', du, ev, cr⟩] u (by simpa using hu)) b1 b2' (by simp; omega) ?_; intro v' w4 hown' hgrow _)
      have HO4 := Lib.hid (Own.snoc hown')
      have HB4 := Lib.hid ((bl_alloc HB.out _).grown hgrow (by simp; omega) (fun k e => (World.ownsRow.lt HO.out k e).1))
      clear hown' hgrow hlen b1 b2'
      go_wp2
      go_roundw
      case rel => exact ⟨k + 1, by omega, by go_num, by rw [HT.out]; exact HO4.out, HB4.out⟩
      case measure => simp [intOf]; omega
    · obtain rfl : k = n2 := by omega
      have hlti : ¬ (k : Int) < (k : Int) := by omega
      go_wp2
      go_ret
      exact lsRes_of HO.out HB.out (by rw [List.take_of_length_le (by rw [HL2.out]; exact Nat.le_refl _)])
end Go.Proofs.YtgponahmkjohiabGreatDoor
