import Derived.Test.YtgponahmkjohiabGreatDoorT2PmK
import Derived.Test.YtgponahmkjohiabGreatDoorT2MsF
namespace Go.Proofs.YtgponahmkjohiabGreatDoor
open Go.RowKit
set_option linter.unusedVariables false
set_option maxRecDepth 100000 in
set_option maxHeartbeats 8000000 in
theorem iRunJobs_is (w : World) (A : Option Addr) (n c : Nat) (ts : List Tk) (h : Tks w w.heap.size A n ts) (hn : n ≤ 1048576) (Aj : Option Addr) (nj cj : Nat) (js : List Jb) (hj : Jbs w w.heap.size Aj nj js) (pol tk : Int) (e0 : Addr) (he : EG w e0) :
    Calls Tryz.prog 13 #[.slice A n c, .slice Aj nj cj, .int .i64 pol, .int .i64 tk] w (RunRes (runR ts js pol tk) (okR ts js pol tk) w) := by
  obtain ⟨X, Y, hXY⟩ : ∃ X Y, polX ts pol = (X, Y) := ⟨_, _, rfl⟩
  obtain ⟨bp, hbp⟩ : ∃ bp, polB ts pol = bp := ⟨_, rfl⟩
  obtain ⟨bj, hbj⟩ : ∃ bj, jobsB ts js = bj := ⟨_, rfl⟩
  have hXl := polX_le ts pol
  rw [hXY] at hXl
  dsimp only at hXl
  obtain ⟨sF, hsF⟩ : ∃ sF, runR ts js pol tk = sF := ⟨_, rfl⟩
  obtain ⟨bF, hbF⟩ : ∃ bF, okR ts js pol tk = bF := ⟨_, rfl⟩
  rw [hsF, hbF]
  have HSF := Lib.hid hsF
  have HBF := Lib.hid hbF
  have HT := Lib.hid h
  have HJ := Lib.hid hj
  have HEG := Lib.hid he
  have HXY := Lib.hid hXY
  have HBP := Lib.hid hbp
  have HBJ := Lib.hid hbj
  have HZ0 := Lib.hid (Blk.new w 29 #[.slice none 0 0, .slice none 0 0, .slice none 0 0, .bool false])
  have HOK : Hid (okR ts js pol tk = (bj && (bp && (decide (0 ≤ tk) && decide (tk ≤ 200))))) := Lib.hid (by unfold okR; rw [hbj, hbp])
  have HNO : Hid (∀ (hx : okR ts js pol tk = false), runR ts js pol tk = noM) := Lib.hid (fun hx => runR_no hx)
  have HPO : Hid (poOf ts pol = ⟨pol == 1, (X : Int), (Y : Int)⟩) := Lib.hid (by unfold poOf; rw [hXY])
  have HJL := Lib.hid (fun hh : bj = true => (wrsB_iff.1 (jobs_wrs (hbj.trans hh))).1)
  clear h hj he hXY hbp hbj hsF hbF
  go_enter Tryz.func13, Tryz.ntmps13
  go_wp2_with fail
  refine (iJobs_is _ A n c ts ((HT.out.below (bl_alloc (Below.refl _ w) _)).more (by simp)) hn Aj nj cj js ((HJ.out.below (bl_alloc (Below.refl _ w) _)).more (by simp)) bj HBJ.out).mono ?_
  rintro e w2 ⟨rfl, hb⟩
  have hs2 : w.heap.size + 1 ≤ w2.heap.size := by have := hb.size; simp at this; omega
  have HB2 := Lib.hid (bl_trans (bl_alloc (Below.refl _ w) _) hb)
  have HR2 := Lib.hid (HZ0.out.below hb (by simp))
  clear hb
  obtain ⟨r0, r1, r2, r3⟩ := Blk.quad HR2.out
  have fr := HR2.out.frozen
  cases bj
  case false =>
    have hok : okR ts js pol tk = false := by rw [HOK.out]; rfl
    obtain rfl : sF = noM := by rw [← HSF.out, HNO.out hok]
    obtain rfl : bF = false := by rw [← HBF.out, hok]
    clear hok
    go_wp2
    have hZ := (((HR2.out.set_ 0 (.slice none 0 0)).set_ 1 (.slice none 0 0)).set_ 2 (.slice none 0 0)).set_ 3 (.bool false)
    obtain ⟨z0, z1, z2, z3⟩ := Blk.quad (w := ((((w2.setCell ⟨w.heap.size, 0, none⟩ (.slice none 0 0)).setCell ⟨w.heap.size, 1, none⟩ (.slice none 0 0)).setCell ⟨w.heap.size, 2, none⟩ (.slice none 0 0)).setCell ⟨w.heap.size, 3, none⟩ (.bool false))) hZ
    clear hZ
    refine bodyPost_ret (v := .tuple #[.agg #[.slice none 0 0, .slice none 0 0, .slice none 0 0, .bool false], .bool false]) (by simp [results, Tryz.results13, go_sem, z0, z1, z2, z3]) rfl ?_
    exact ⟨none, 0, none, 0, none, 0, rfl, OwnZ.nil_ _ _, OwnZ.nil_ _ _, OwnZ.nil_ _ _, (fun k e => (by cases e)), (fun k e => (by cases e)), (fun k e => (by cases e)), bl_set (bl_set (bl_set (bl_set HB2.out (by dsimp only; omega) _) (by dsimp only; omega) _) (by dsimp only; omega) _) (by dsimp only; omega) _⟩
  by_cases h0 : 0 ≤ tk
  case neg =>
    have hok : okR ts js pol tk = false := by rw [HOK.out]; simp [h0]
    have d0 : tk < 0 := by omega
    have e0 : decide (tk < 0) = true := decide_eq_true d0
    obtain rfl : sF = noM := by rw [← HSF.out, HNO.out hok]
    obtain rfl : bF = false := by rw [← HBF.out, hok]
    clear hok
    go_wp2
    have hZ := (((HR2.out.set_ 0 (.slice none 0 0)).set_ 1 (.slice none 0 0)).set_ 2 (.slice none 0 0)).set_ 3 (.bool false)
    obtain ⟨z0, z1, z2, z3⟩ := Blk.quad (w := ((((w2.setCell ⟨w.heap.size, 0, none⟩ (.slice none 0 0)).setCell ⟨w.heap.size, 1, none⟩ (.slice none 0 0)).setCell ⟨w.heap.size, 2, none⟩ (.slice none 0 0)).setCell ⟨w.heap.size, 3, none⟩ (.bool false))) hZ
    clear hZ
    refine bodyPost_ret (v := .tuple #[.agg #[.slice none 0 0, .slice none 0 0, .slice none 0 0, .bool false], .bool false]) (by simp [results, Tryz.results13, go_sem, z0, z1, z2, z3]) rfl ?_
    exact ⟨none, 0, none, 0, none, 0, rfl, OwnZ.nil_ _ _, OwnZ.nil_ _ _, OwnZ.nil_ _ _, (fun k e => (by cases e)), (fun k e => (by cases e)), (fun k e => (by cases e)), bl_set (bl_set (bl_set (bl_set HB2.out (by dsimp only; omega) _) (by dsimp only; omega) _) (by dsimp only; omega) _) (by dsimp only; omega) _⟩
  by_cases h2 : tk ≤ 200
  case neg =>
    have hok : okR ts js pol tk = false := by rw [HOK.out]; simp [h2]
    have d0 : ¬ tk < 0 := by omega
    have d1 : 200 < tk := by omega
    have e0 : decide (tk < 0) = false := decide_eq_false d0
    have e1 : decide (200 < tk) = true := decide_eq_true d1
    obtain rfl : sF = noM := by rw [← HSF.out, HNO.out hok]
    obtain rfl : bF = false := by rw [← HBF.out, hok]
    clear hok
    go_wp2
    have hZ := (((HR2.out.set_ 0 (.slice none 0 0)).set_ 1 (.slice none 0 0)).set_ 2 (.slice none 0 0)).set_ 3 (.bool false)
    obtain ⟨z0, z1, z2, z3⟩ := Blk.quad (w := ((((w2.setCell ⟨w.heap.size, 0, none⟩ (.slice none 0 0)).setCell ⟨w.heap.size, 1, none⟩ (.slice none 0 0)).setCell ⟨w.heap.size, 2, none⟩ (.slice none 0 0)).setCell ⟨w.heap.size, 3, none⟩ (.bool false))) hZ
    clear hZ
    refine bodyPost_ret (v := .tuple #[.agg #[.slice none 0 0, .slice none 0 0, .slice none 0 0, .bool false], .bool false]) (by simp [results, Tryz.results13, go_sem, z0, z1, z2, z3]) rfl ?_
    exact ⟨none, 0, none, 0, none, 0, rfl, OwnZ.nil_ _ _, OwnZ.nil_ _ _, OwnZ.nil_ _ _, (fun k e => (by cases e)), (fun k e => (by cases e)), (fun k e => (by cases e)), bl_set (bl_set (bl_set (bl_set HB2.out (by dsimp only; omega) _) (by dsimp only; omega) _) (by dsimp only; omega) _) (by dsimp only; omega) _⟩
  have d0 : ¬ tk < 0 := by omega
  have d1 : ¬ 200 < tk := by omega
  have e1 : decide (tk < 0) = false := decide_eq_false d0
  have e2 : decide (200 < tk) = false := decide_eq_false d1
  have h60 : js.length ≤ 60 := HJL.out rfl
  have HNM := Lib.hid (iNew_is w2 A n c ts ((HT.out.below HB2.out).more HB2.out.size) hn Aj nj cj js ((HJ.out.below HB2.out).more HB2.out.size) h60 pol e0 (HEG.out.below HB2.out) X Y bp HXY.out HBP.out)
  clear r0 r1 r2 r3
  go_wp2_with fail
  refine HNM.out.mono ?_
  rintro e w3 ⟨hb3, hnew⟩
  have HB3 := Lib.hid hb3
  have HR3 := Lib.hid (HR2.out.below hb3 (by omega))
  have hs3 := hb3.size
  clear hb3 HNM
  cases bp
  case false =>
    rw [if_neg (by decide)] at hnew
    subst hnew
    have hok : okR ts js pol tk = false := by rw [HOK.out]; rfl
    obtain rfl : sF = noM := by rw [← HSF.out, HNO.out hok]
    obtain rfl : bF = false := by rw [← HBF.out, hok]
    obtain ⟨r0, r1, r2, r3⟩ := Blk.quad HR3.out
    have fr3 := HR3.out.frozen
    have HB23 : Hid (Below w.heap.size w w3) := Lib.hid (blB HB2.out (by omega) HB3.out)
    clear hok
    go_wp2
    have hZ := (((HR3.out.set_ 0 (.slice none 0 0)).set_ 1 (.slice none 0 0)).set_ 2 (.slice none 0 0)).set_ 3 (.bool false)
    obtain ⟨z0, z1, z2, z3⟩ := Blk.quad (w := ((((w3.setCell ⟨w.heap.size, 0, none⟩ (.slice none 0 0)).setCell ⟨w.heap.size, 1, none⟩ (.slice none 0 0)).setCell ⟨w.heap.size, 2, none⟩ (.slice none 0 0)).setCell ⟨w.heap.size, 3, none⟩ (.bool false))) hZ
    clear hZ
    refine bodyPost_ret (v := .tuple #[.agg #[.slice none 0 0, .slice none 0 0, .slice none 0 0, .bool false], .bool false]) (by simp [results, Tryz.results13, go_sem, z0, z1, z2, z3]) rfl ?_
    exact ⟨none, 0, none, 0, none, 0, rfl, OwnZ.nil_ _ _, OwnZ.nil_ _ _, OwnZ.nil_ _ _, (fun k e => (by cases e)), (fun k e => (by cases e)), (fun k e => (by cases e)), bl_set (bl_set (bl_set (bl_set HB23.out (by dsimp only; omega) _) (by dsimp only; omega) _) (by dsimp only; omega) _) (by dsimp only; omega) _⟩
  rw [if_pos rfl] at hnew
  obtain ⟨M, g, F, K, ge, p, rfl, hps, hpe⟩ := hnew
  have hok : okR ts js pol tk = true := by rw [HOK.out]; simp [h0, h2]
  obtain rfl : bF = true := by rw [← HBF.out, hok]
  obtain ⟨T, hT⟩ : ∃ T : Nat, tk = (T : Int) := ⟨tk.toNat, by omega⟩
  subst hT
  have HEND : Hid (runM ts js ⟨pol == 1, (X : Int), (Y : Int)⟩ T = sF) := Lib.hid (by rw [← HSF.out, runR_ok hok, ← HPO.out]; rfl)
  have hT2 : T ≤ 200 := by omega
  have HPS := Lib.hid hps
  have HPE := Lib.hid hpe
  obtain ⟨P, hP⟩ : ∃ P : Po, (⟨pol == 1, (X : Int), (Y : Int)⟩ : Po) = P := ⟨_, rfl⟩
  rw [hP] at HPS HEND
  have z0 : 0 ≤ P.xn := by rw [← hP]; dsimp only; omega
  have z1 : P.xn ≤ 1000000000 := by rw [← hP]; dsimp only; omega
  have z2 : 0 ≤ P.xd := by rw [← hP]; dsimp only; omega
  have z3 : P.xd ≤ 1000000000 := by rw [← hP]; dsimp only; omega
  have hMB := hps.bM
  have hMl := hps.at_.lt
  clear hok HOK HNO HSF HBF hps hpe hP HPO h0 h2
  go_wp2
  clear d0 d1 e1 e2
  go_loopw [37] (fun i wr => ∃ (q : Nat) (d : Nat → Int) (p1 : Pm), q ≤ T ∧ i = .int .i64 (q : Int) ∧ Hid (PS wr w2.heap.size M A n c Aj nj cj P g F K (runM ts js P q) d p1) ∧ Hid (InvM ts js (q : Int) d (runM ts js P q)) ∧ Hid (∃ ge ce, p1.E = .slice (some ⟨ge, 0, none⟩) (runM ts js P q).en.length ce) ∧ Hid (Below w2.heap.size w3 wr)) (fun i _ => T - (intOf i).toNat)
  case atStart => exact ⟨0, fun _ => 0, p, Nat.zero_le _, rfl, HPS, Lib.hid (init_inv js ts), Lib.hid ⟨ge, js.length, by rw [HPE.out]; simp [runM, initM]⟩, Lib.hid ((Below.refl w3.heap.size w3).mono hs3)⟩
  case round =>
    obtain ⟨q, d, p1, hq, rfl, HS, HI, HEX, HBR⟩ := hrel
    have hwr : w2.heap.size ≤ wr.heap.size := by have := HBR.out.size; omega
    have HB2R : Hid (Below w2.heap.size w2 wr) := Lib.hid (HB3.out.trans HBR.out)
    by_cases hlt : q < T
    · have q1 : (q : Int) < (T : Int) := by omega
      have q0 : (0 : Int) ≤ (q : Int) := by omega
      have HTR : Hid ((runM ts js P q).tr.length ≤ 100000) := Lib.hid (by rw [tr_len HBJ.out q]; omega)
      have HSW : Hid ((runM ts js P q).sw.length ≤ 100000) := Lib.hid (by have := sw_len HI.out (by omega); omega)
      obtain ⟨g5, c5, h5⟩ := HEX.out
      have HST := Lib.hid (iStep_is wr w2.heap.size M A n c ts Aj nj cj js P g F K (runM ts js P q) d p1 hwr (((HT.out.below HB2.out).more HB2.out.size).below HB2R.out) (((HJ.out.below HB2.out).more HB2.out.size).below HB2R.out) HBJ.out HS.out (q : Int) HI.out g5 c5 h5 (by omega) (by omega) HTR.out HSW.out z0 z1 z2 z3)
      clear h5
      go_wp2_with fail
      refine HST.out.mono ?_
      rintro e w5 ⟨d5, hi5, p5, rfl, hs5, he5, hb5⟩
      have HS5 : Hid (PS w5 w2.heap.size M A n c Aj nj cj P g F K (runM ts js P (q + 1)) d5 p5) := Lib.hid hs5
      have HI5 : Hid (InvM ts js ((q + 1 : Nat) : Int) d5 (runM ts js P (q + 1))) := Lib.hid ((by omega : ((q + 1 : Nat) : Int) = (q : Int) + 1) ▸ hi5)
      have HE5 : Hid (∃ ge ce, p5.E = .slice (some ⟨ge, 0, none⟩) (runM ts js P (q + 1)).en.length ce) := Lib.hid he5
      have HB5 := Lib.hid (HBR.out.trans hb5)
      clear hi5 hs5 he5 hb5 HST
      go_wp2
      go_roundw
      case rel => exact ⟨q + 1, d5, p5, by omega, by go_num, HS5, HI5, HE5, HB5⟩
      case measure => simp [intOf]; omega
    · obtain rfl : q = T := by omega
      have HSF : Hid (PS wr w2.heap.size M A n c Aj nj cj P g F K sF d p1) := Lib.hid (by have h := HS.out; rw [HEND.out] at h; exact h)
      clear HS HI HEX HPS HPE
      obtain ⟨Ae, ce, eE⟩ := HSF.out.e.form
      obtain ⟨At, ct, eT⟩ := HSF.out.t.form
      obtain ⟨As, cs, eS⟩ := HSF.out.z.form
      have p126 := HSF.out.at_.c126
      have p127 := HSF.out.at_.c127
      have p128 := HSF.out.at_.c128
      have p129 := HSF.out.at_.c129
      have fM := HSF.out.at_.frozen
      rw [eE] at p126
      rw [eT] at p127
      rw [eS] at p128
      obtain ⟨l1, hl1⟩ : ∃ l, sF.en.length = l := ⟨_, rfl⟩
      obtain ⟨l2, hl2⟩ : ∃ l, sF.tr.length = l := ⟨_, rfl⟩
      obtain ⟨l3, hl3⟩ : ∃ l, sF.sw.length = l := ⟨_, rfl⟩
      rw [hl1] at p126
      rw [hl2] at p127
      rw [hl3] at p128
      have HRr : Hid (Blk wr w.heap.size 29 #[.slice none 0 0, .slice none 0 0, .slice none 0 0, .bool false]) := Lib.hid (HR3.out.below HBR.out (by omega))
      have HBwr : Hid (Below w.heap.size w wr) := Lib.hid ((HB2.out).trans ((HB2R.out).mono (by omega)))
      have HFIN : Hid (∀ W, Kp wr W (fun x => x = M ∨ x = w.heap.size) → RunRes sF true w (.returned (.tuple #[.agg #[.slice Ae l1 ce, .slice At l2 ct, .slice As l3 cs, .bool sF.hi], .bool true])) W) := Lib.hid (fun W hk => by
        have hbw : Below w.heap.size w W := HBwr.out.trans (hk.below (by omega) (fun x e => by rcases e with rfl | rfl; omega; exact Nat.le_refl _))
        have hn : ∀ (v : Value) (zs : List Int), OwnZ wr w2.heap.size v zs → v.ownBlock ≠ some M → OwnZ W w.heap.size v zs := fun v zs ho hv => (ho.kp hk (fun x e1 e2 => by
          have h1 := (World.ownsRow.lt ho x e1).1
          rcases e2 with rfl | rfl
          · exact hv e1
          · omega)).less (by omega)
        rw [← hl1, ← hl2, ← hl3]
        refine ⟨Ae, ce, At, ct, As, cs, rfl, ?_, ?_, ?_, ?_, ?_, ?_, hbw⟩
        · rw [← eE]; exact hn _ _ HSF.out.e HSF.out.eM
        · rw [← eT]; exact hn _ _ HSF.out.t HSF.out.tM
        · rw [← eS]; exact hn _ _ HSF.out.z HSF.out.zM
        · rw [← eE, ← eT]; exact HSF.out.et
        · rw [← eE, ← eS]; exact HSF.out.ez
        · rw [← eT, ← eS]; exact HSF.out.tz)
      clear hl1 hl2 hl3 eE eT eS
      have hRM : w.heap.size ≠ M := by omega
      cases hh : sF.hi
      · have p3 : wr.cell? ⟨M, 3, none⟩ = some (.iface 124 (.agg #[])) := by rw [HSF.out.at_.c3, HSF.out.mo, hh]; rfl
        have hm := m_hiL
        have HHH := Lib.hid hh
        rw [hh] at HFIN
        clear hh
        go_wp2_with fail
        refine (hiL_is wr).mono ?_
        rintro e w6 ⟨rfl, hb6⟩
        have HB6 := Lib.hid hb6
        have P6 := HSF.out.at_.bel hb6
        have P7 := Lib.hid (P6.sHi false)
        have f6 := P6.frozen
        have q129 := P6.c129
        have hs6 := hb6.size
        have qq : ∀ i : Nat, w6.cell? ⟨M, i, none⟩ = wr.cell? ⟨M, i, none⟩ := fun i => hb6.cell (p := ⟨M, i, none⟩) (by have := HSF.out.at_.lt; exact this)
        obtain ⟨w7, hw7⟩ : ∃ w7, w6.setCell ⟨M, 129, none⟩ (.bool false) = w7 := ⟨_, rfl⟩
        rw [hw7] at P7
        have s126 : w7.cell? ⟨M, 126, none⟩ = some (.slice Ae l1 ce) := P7.out.c126.trans (HSF.out.at_.c126.symm.trans p126)
        have s127 : w7.cell? ⟨M, 127, none⟩ = some (.slice At l2 ct) := P7.out.c127.trans (HSF.out.at_.c127.symm.trans p127)
        have s128 : w7.cell? ⟨M, 128, none⟩ = some (.slice As l3 cs) := P7.out.c128.trans (HSF.out.at_.c128.symm.trans p128)
        have s129 : w7.cell? ⟨M, 129, none⟩ = some (.bool false) := P7.out.c129
        have HR7 : Hid (Blk w7 w.heap.size 29 #[.slice none 0 0, .slice none 0 0, .slice none 0 0, .bool false]) := Lib.hid (by rw [← hw7]; exact (HRr.out.below hb6 HRr.out.lt).far (by dsimp only; omega) _)
        obtain ⟨r0, r1, r2, r3⟩ := Blk.quad HR7.out
        have fr7 := HR7.out.frozen
        have HK7 : Hid (Kp wr w7 (fun x => x = M ∨ x = w.heap.size)) := Lib.hid (by rw [← hw7]; exact Kp.set (S := fun x => x = M ∨ x = w.heap.size) (a := ⟨M, 129, none⟩) (kp_of_bel hb6) (.inl (.inl rfl)) _)
        clear hb6 P6 p126 p127 p128 p129 fM qq p3
        go_wp2
        have hZ := (((HR7.out.set_ 0 (.slice Ae l1 ce)).set_ 1 (.slice At l2 ct)).set_ 2 (.slice As l3 cs)).set_ 3 (.bool false)
        obtain ⟨z0, z1, z2, z3⟩ := Blk.quad (w := ((((w7.setCell ⟨w.heap.size, 0, none⟩ (.slice Ae l1 ce)).setCell ⟨w.heap.size, 1, none⟩ (.slice At l2 ct)).setCell ⟨w.heap.size, 2, none⟩ (.slice As l3 cs)).setCell ⟨w.heap.size, 3, none⟩ (.bool false))) hZ
        clear hZ
        refine bodyPost_ret (v := .tuple #[.agg #[.slice Ae l1 ce, .slice At l2 ct, .slice As l3 cs, .bool false], .bool true]) (by simp [results, Tryz.results13, go_sem, z0, z1, z2, z3]) rfl ?_
        exact HFIN.out _ (Kp.set (S := fun x => x = M ∨ x = w.heap.size) (a := ⟨w.heap.size, 3, none⟩) (Kp.set (S := fun x => x = M ∨ x = w.heap.size) (a := ⟨w.heap.size, 2, none⟩) (Kp.set (S := fun x => x = M ∨ x = w.heap.size) (a := ⟨w.heap.size, 1, none⟩) (Kp.set (S := fun x => x = M ∨ x = w.heap.size) (a := ⟨w.heap.size, 0, none⟩) HK7.out (.inl (.inr rfl)) _) (.inl (.inr rfl)) _) (.inl (.inr rfl)) _) (.inl (.inr rfl)) _)
      · have p3 : wr.cell? ⟨M, 3, none⟩ = some (.iface 162 (.agg #[])) := by rw [HSF.out.at_.c3, HSF.out.mo, hh]; rfl
        have hm := m_hiH
        have HHH := Lib.hid hh
        rw [hh] at HFIN
        clear hh
        go_wp2_with fail
        refine (hiH_is wr).mono ?_
        rintro e w6 ⟨rfl, hb6⟩
        have HB6 := Lib.hid hb6
        have P6 := HSF.out.at_.bel hb6
        have P7 := Lib.hid (P6.sHi true)
        have f6 := P6.frozen
        have q129 := P6.c129
        have hs6 := hb6.size
        have qq : ∀ i : Nat, w6.cell? ⟨M, i, none⟩ = wr.cell? ⟨M, i, none⟩ := fun i => hb6.cell (p := ⟨M, i, none⟩) (by have := HSF.out.at_.lt; exact this)
        obtain ⟨w7, hw7⟩ : ∃ w7, w6.setCell ⟨M, 129, none⟩ (.bool true) = w7 := ⟨_, rfl⟩
        rw [hw7] at P7
        have s126 : w7.cell? ⟨M, 126, none⟩ = some (.slice Ae l1 ce) := P7.out.c126.trans (HSF.out.at_.c126.symm.trans p126)
        have s127 : w7.cell? ⟨M, 127, none⟩ = some (.slice At l2 ct) := P7.out.c127.trans (HSF.out.at_.c127.symm.trans p127)
        have s128 : w7.cell? ⟨M, 128, none⟩ = some (.slice As l3 cs) := P7.out.c128.trans (HSF.out.at_.c128.symm.trans p128)
        have s129 : w7.cell? ⟨M, 129, none⟩ = some (.bool true) := P7.out.c129
        have HR7 : Hid (Blk w7 w.heap.size 29 #[.slice none 0 0, .slice none 0 0, .slice none 0 0, .bool false]) := Lib.hid (by rw [← hw7]; exact (HRr.out.below hb6 HRr.out.lt).far (by dsimp only; omega) _)
        obtain ⟨r0, r1, r2, r3⟩ := Blk.quad HR7.out
        have fr7 := HR7.out.frozen
        have HK7 : Hid (Kp wr w7 (fun x => x = M ∨ x = w.heap.size)) := Lib.hid (by rw [← hw7]; exact Kp.set (S := fun x => x = M ∨ x = w.heap.size) (a := ⟨M, 129, none⟩) (kp_of_bel hb6) (.inl (.inl rfl)) _)
        clear hb6 P6 p126 p127 p128 p129 fM qq p3
        go_wp2
        have hZ := (((HR7.out.set_ 0 (.slice Ae l1 ce)).set_ 1 (.slice At l2 ct)).set_ 2 (.slice As l3 cs)).set_ 3 (.bool true)
        obtain ⟨z0, z1, z2, z3⟩ := Blk.quad (w := ((((w7.setCell ⟨w.heap.size, 0, none⟩ (.slice Ae l1 ce)).setCell ⟨w.heap.size, 1, none⟩ (.slice At l2 ct)).setCell ⟨w.heap.size, 2, none⟩ (.slice As l3 cs)).setCell ⟨w.heap.size, 3, none⟩ (.bool true))) hZ
        clear hZ
        refine bodyPost_ret (v := .tuple #[.agg #[.slice Ae l1 ce, .slice At l2 ct, .slice As l3 cs, .bool true], .bool true]) (by simp [results, Tryz.results13, go_sem, z0, z1, z2, z3]) rfl ?_
        exact HFIN.out _ (Kp.set (S := fun x => x = M ∨ x = w.heap.size) (a := ⟨w.heap.size, 3, none⟩) (Kp.set (S := fun x => x = M ∨ x = w.heap.size) (a := ⟨w.heap.size, 2, none⟩) (Kp.set (S := fun x => x = M ∨ x = w.heap.size) (a := ⟨w.heap.size, 1, none⟩) (Kp.set (S := fun x => x = M ∨ x = w.heap.size) (a := ⟨w.heap.size, 0, none⟩) HK7.out (.inl (.inr rfl)) _) (.inl (.inr rfl)) _) (.inl (.inr rfl)) _) (.inl (.inr rfl)) _)
end Go.Proofs.YtgponahmkjohiabGreatDoor
