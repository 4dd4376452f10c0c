import Derived.Test.YtgponahmkjohiaaGreatDoorProg
import Derived.WalkKit
import Derived.WalkSpells
import Derived.WalkLawsBesides
import Derived.Lib.Hide
import Derived.Deep.QuietTactic
import Derived.Deep.Draws
import Derived.BigQuiet
import Derived.IntWalk
import Derived.Maps.AppendAt
import Derived.Deep.AppendLies
import Derived.Deep.RegionHeld3
import Derived.Deep.RegionLaw
import Derived.LoopTactic
import Derived.Laws.CopyRow
import Derived.Laws.Externs
import Derived.Lib.Overlaps
import Derived.Laws.AppendOwnNone
import Derived.Test.YtgponahmkjohiaaGreatDoorZNA
import Derived.Test.YtgponahmkjohiaaGreatDoorZNB
import Derived.RegionTactic
import Derived.ChangeAlike
import Derived.ScopeJumps
import Derived.WalkMore
import Derived.Shelf.Abstract
import Derived.Test.YtgponahmkjohiaaGreatDoorZND
import Derived.Test.YtgponahmkjohiaaGreatDoorZNE
import Derived.Test.YtgponahmkjohiaaGreatDoorZNF
import Derived.Test.YtgponahmkjohiaaGreatDoorZMsA
import Derived.Test.YtgponahmkjohiaaGreatDoorZMsB
import Derived.Test.YtgponahmkjohiaaGreatDoorZMsC
import Derived.Test.YtgponahmkjohiaaGreatDoorZMsD
import Derived.Test.YtgponahmkjohiaaGreatDoorZMcR
import Derived.Test.YtgponahmkjohiaaGreatDoorZMsE
import Derived.Test.YtgponahmkjohiaaGreatDoorZNC
import Derived.Test.YtgponahmkjohiaaGreatDoorZPmA
import Derived.Test.YtgponahmkjohiaaGreatDoorZPmB
import Derived.Test.YtgponahmkjohiaaGreatDoorZPmC
import Derived.Test.YtgponahmkjohiaaGreatDoorZPmD
import Derived.Test.YtgponahmkjohiaaGreatDoorZMcK
import Derived.Test.YtgponahmkjohiaaGreatDoorZPmE
import Derived.Test.YtgponahmkjohiaaGreatDoorZPmF
import Derived.Test.YtgponahmkjohiaaGreatDoorZPmG
import Derived.Test.YtgponahmkjohiaaGreatDoorZPmH
import Derived.Test.YtgponahmkjohiaaGreatDoorZPmI
import Derived.Test.YtgponahmkjohiaaGreatDoorZPmJ
import Derived.Test.YtgponahmkjohiaaGreatDoorZRepM
import Derived.Test.YtgponahmkjohiaaGreatDoorZNI
import Derived.Test.YtgponahmkjohiaaGreatDoorZPmK
import Derived.Test.YtgponahmkjohiaaGreatDoorZMsF
import Derived.Test.YtgponahmkjohiaaGreatDoorZMcH
import Derived.Test.YtgponahmkjohiaaGreatDoorZMcI
import Derived.Test.YtgponahmkjohiaaGreatDoorZVirL
import Derived.Test.YtgponahmkjohiaaGreatDoorZMcJ
import Derived.Test.YtgponahmkjohiaaGreatDoorZNG
import Derived.Test.YtgponahmkjohiaaGreatDoorZMcL
import Derived.Test.YtgponahmkjohiaaGreatDoorZNH
import Derived.Test.YtgponahmkjohiaaGreatDoorZDr7
import Derived.Test.YtgponahmkjohiaaGreatDoorRows
import Derived.Test.YtgponahmkjohiaaGreatDoorZPmL
import Derived.Test.YtgponahmkjohiaaGreatDoorZDrA
import Derived.Test.YtgponahmkjohiaaGreatDoorZMcN
import Derived.Test.YtgponahmkjohiaaGreatDoorZFrameC
import Derived.Test.YtgponahmkjohiaaGreatDoorZFrameV
namespace Go.Proofs.YtgponahmkjohiaaGreatDoor
section
open Go.RowKit
set_option linter.unusedVariables false
set_option maxHeartbeats 1000000 in
theorem dmInts_any (w : World) (A A' : Option Addr) (n c c' : Nat) (zs : List Int) (h : Zs w w.heap.size A n zs) (h' : Zs w w.heap.size A' n zs) (hn : n ≤ 1048576) :
    Calls Tryz.prog 25 #[.slice A n c, .slice A' n c'] w fun e w' => e = .returned (.bool true) ∧ Below w.heap.size w w' := by
  have H := Lib.hid h
  have H' := Lib.hid h'
  clear h h'
  go_enter Tryz.func25, Tryz.ntmps25
  go_wp2
  go_loopw [5] (fun i wr => ∃ k : Nat, k ≤ n ∧ i = .int .i64 k ∧ Below w.heap.size w wr) (fun i _ => n - (intOf i).toNat)
  case atStart => exact ⟨0, Nat.zero_le _, rfl, Below.refl _ _⟩
  case round =>
    obtain ⟨k, hk, rfl, hb⟩ := hrel
    have HB := Lib.hid hb
    clear hb
    by_cases hlt : k < n
    · obtain ⟨z, hz⟩ := zs_at H.out hlt
      obtain ⟨b, o, rfl, hbl, c0⟩ := (H.out.below HB.out).at_ k z hz
      obtain ⟨b', o', rfl, hbl', d0⟩ := (H'.out.below HB.out).at_ k z hz
      clear hz
      have i1 : (0 : Int) ≤ (k : Int) := by omega
      have i2 : (k : Int) < (n : Int) := by omega
      go_wp2
      go_quiet (fail)
      go_wp2
      go_roundw
      case rel => exact ⟨k + 1, by omega, by go_num, bl_drewN HB.out _⟩
      case measure => simp [intOf]; omega
    · obtain rfl : k = n := by omega
      go_wp2
      go_ret
      exact ⟨rfl, HB.out⟩
end
end Go.Proofs.YtgponahmkjohiaaGreatDoor

namespace Go.Proofs.YtgponahmkjohiaaGreatDoor
section
open Go.RowKit
set_option linter.unusedVariables false
section
variable {ts : List Tk} {js : List Jb} {p : Po}
theorem tr_take (hv : jobsB ts js = true) {m n : Nat} (h : m ≤ n) : (runM ts js p n).tr.take m = (runM ts js p m).tr := by
  apply List.ext_getElem?
  intro u
  rw [List.getElem?_take]
  by_cases hu : u < m
  · rw [if_pos hu, tr_get hv n u (by omega), tr_get hv m u hu]
  · rw [if_neg hu, List.getElem?_eq_none (by rw [tr_len hv]; omega)]
theorem sw_prefix (hv : jobsB ts js = true) {m n : Nat} (h : m ≤ n) : ∃ l, (runM ts js p n).sw = (runM ts js p m).sw ++ l := by
  induction h with
  | refl => exact ⟨[], by simp⟩
  | @step n _ ih =>
    obtain ⟨l, hl⟩ := ih
    exact ⟨l ++ _, by rw [show n.succ = n + 1 from rfl, sw_next hv, hl, List.append_assoc]⟩
end
end
end Go.Proofs.YtgponahmkjohiaaGreatDoor

namespace Go.Proofs.YtgponahmkjohiaaGreatDoor
open Go.RowKit
set_option linter.unusedVariables false
theorem capz {w : World} {B c : Nat} {A : Option Addr} {zs : List Int} (h : OwnZ w B (.slice A zs.length c) zs) : (A = none ∧ zs.length = 0 ∧ c = 0) ∨ ∃ g, A = some ⟨g, 0, none⟩ ∧ zs.length ≤ c ∧ c ≤ maxLen := by
  rcases h.2 with ⟨e, h0⟩ | ⟨g, cap, cur, e, _, _, h1, h2, _⟩
  · injection e with e1 e2 e3
    exact .inl ⟨e1, h0, e3⟩
  · injection e with e1 e2 e3
    subst e3
    exact .inr ⟨g, e1, h1, h2⟩
theorem zs_take {w : World} {B : Nat} {A : Option Addr} {n k : Nat} {zs : List Int} (h : Zs w B A n zs) (hk : k ≤ n) : Zs w B A k (zs.take k) :=
  ⟨by rw [List.length_take, h.len]; omega, fun i z hz => h.at_ i z (by
    rw [List.getElem?_take] at hz
    split at hz
    · exact hz
    · cases hz)⟩
set_option maxRecDepth 100000 in
set_option maxHeartbeats 8000000 in
theorem fnRunPart_walk (w : World) (A : Option Addr) (n c : Nat) (f : Nat → Int) (h : Code w w.heap.size A n c f) (e0 : Addr) (he : EG w e0) :
    Calls Tryz.prog 7 #[.slice A n c] w fun e w' => e = .returned (.bool true) ∧ Below w.heap.size w w' := by
  have H := Lib.hid h
  have HE := Lib.hid he
  have hle := h.le
  have hmax := h.max
  unfold maxLen at hmax
  clear h he
  by_cases hn : 1048576 < n
  · go_enter Tryz.func7, Tryz.ntmps7
    go_wp2
    go_ret
    exact ⟨rfl, Below.refl _ _⟩
  go_enter Tryz.func7, Tryz.ntmps7
  go_wp2_with fail
  refine (dDrawRun_any _ A n c f H.out).mono ?_
  rintro e w1 ⟨A1, c1, ts, A2, c2, js, pol, tk, rfl, htl, hjl, p0, p1, k0, k1, ho, hoj, hb⟩
  have HB1 := Lib.hid hb
  have HO1 := Lib.hid ho
  have HOJ1 := Lib.hid hoj
  have HT1 := Lib.hid ho.reads.2
  have HJ1 := Lib.hid hoj.reads.2
  have hct := own_le ho
  have hs1 := hb.size
  clear hb ho hoj H
  obtain ⟨s, hs⟩ : ∃ s, runR ts js pol tk = s := ⟨_, rfl⟩
  obtain ⟨b, hb⟩ : ∃ b, okR ts js pol tk = b := ⟨_, rfl⟩
  have HLN : Hid (s.en.length ≤ 61 ∧ s.tr.length ≤ 200 ∧ s.sw.length ≤ 200) := Lib.hid (by rw [← hs]; exact runR_len10 ts js pol tk hjl)
  have HRJ := Lib.hid (iRunJobs_is w1 A1 ts.length c1 ts HT1.out (by omega) A2 js.length c2 js HJ1.out pol tk e0 (HE.out.below HB1.out))
  rw [hs, hb] at HRJ
  have HS := Lib.hid hs
  have HOK := Lib.hid hb
  clear hs hb
  go_wp2_with fail
  refine HRJ.out.mono ?_
  clear HRJ
  obtain ⟨en, tr, sw, hi, wkx, nxx⟩ := s
  rintro e w2 ⟨B1, d1, B2, d2, B3, d3, rfl, o1, o2, o3, _, _, _, hb⟩
  dsimp only at o1 o2 o3 HLN ⊢
  have HB2 := Lib.hid hb
  have hs2 := hb.size
  have HE2 := Lib.hid o1
  have HTR2 := Lib.hid o2
  have HSW2 := Lib.hid o3
  clear hb o1 o2 o3
  obtain ⟨wz2, hwz2⟩ : ∃ wz, w2.alloc (.cells #[.slice none 0 0, .slice none 0 0, .slice none 0 0, .bool false] 29) = wz := ⟨_, rfl⟩
  have hz2 : Blk wz2 w2.heap.size 29 #[.slice none 0 0, .slice none 0 0, .slice none 0 0, .bool false] := hwz2 ▸ Blk.new w2 _ _
  have bz2 : Below w2.heap.size w2 wz2 := hwz2 ▸ bl_alloc (Below.refl _ _) _
  obtain ⟨za2, zb2, zc2, zd2⟩ := Blk.quad hz2
  have zf2 := hz2.frozen
  obtain ⟨w3, hwn2⟩ : ∃ wn, (((wz2.setCell ⟨w2.heap.size, 0, none⟩ (.slice B1 en.length d1)).setCell ⟨w2.heap.size, 1, none⟩ (.slice B2 tr.length d2)).setCell ⟨w2.heap.size, 2, none⟩ (.slice B3 sw.length d3)).setCell ⟨w2.heap.size, 3, none⟩ (.bool hi) = wn := ⟨_, rfl⟩
  have hX2 : Blk w3 w2.heap.size 29 #[(.slice B1 en.length d1), (.slice B2 tr.length d2), (.slice B3 sw.length d3), (.bool hi)] := by
    rw [← hwn2]
    have h := (((hz2.set_ 0 ((.slice B1 en.length d1))).set_ 1 ((.slice B2 tr.length d2))).set_ 2 ((.slice B3 sw.length d3))).set_ 3 ((.bool hi))
    simpa using h
  have hY2 : Below w2.heap.size w2 w3 := by
    rw [← hwn2]
    exact (((bl_set bz2 (by dsimp only; omega) _).setCell (by dsimp only; omega) _).setCell (by dsimp only; omega) _).setCell (by dsimp only; omega) _
  have HX3 := Lib.hid hX2
  have HY3 := Lib.hid hY2
  have hs3 := hY2.size
  have HT3 := Lib.hid ((HT1.out.below (bl_trans HB2.out HY3.out)).more (by omega : w1.heap.size ≤ w3.heap.size))
  have HJ3 := Lib.hid ((HJ1.out.below (bl_trans HB2.out HY3.out)).more (by omega : w1.heap.size ≤ w3.heap.size))
  have HSR := Lib.hid (sRunJobs_is w3 A1 ts.length c1 ts HT3.out (by omega) A2 js.length c2 js HJ3.out pol tk)
  rw [HS.out, HOK.out] at HSR
  clear hX2 hY2 hz2 bz2
  go_wp2_with fail
  refine HSR.out.mono ?_
  clear HSR za2 zb2 zc2 zd2 zf2 hwz2 hwn2
  rintro e w4 ⟨C1, f1, C2, f2, C3, f3, rfl, o1, o2, o3, _, _, _, hb⟩
  dsimp only at o1 o2 o3 ⊢
  have HB4 := Lib.hid hb
  have hs4 := hb.size
  have HE4 := Lib.hid o1
  have HTR4 := Lib.hid o2
  have HSW4 := Lib.hid o3
  clear hb o1 o2 o3
  obtain ⟨wz4, hwz4⟩ : ∃ wz, w4.alloc (.cells #[.slice none 0 0, .slice none 0 0, .slice none 0 0, .bool false] 29) = wz := ⟨_, rfl⟩
  have hz4 : Blk wz4 w4.heap.size 29 #[.slice none 0 0, .slice none 0 0, .slice none 0 0, .bool false] := hwz4 ▸ Blk.new w4 _ _
  have bz4 : Below w4.heap.size w4 wz4 := hwz4 ▸ bl_alloc (Below.refl _ _) _
  obtain ⟨za4, zb4, zc4, zd4⟩ := Blk.quad hz4
  have zf4 := hz4.frozen
  obtain ⟨w5, hwn4⟩ : ∃ wn, (((wz4.setCell ⟨w4.heap.size, 0, none⟩ (.slice C1 en.length f1)).setCell ⟨w4.heap.size, 1, none⟩ (.slice C2 tr.length f2)).setCell ⟨w4.heap.size, 2, none⟩ (.slice C3 sw.length f3)).setCell ⟨w4.heap.size, 3, none⟩ (.bool hi) = wn := ⟨_, rfl⟩
  have hX4 : Blk w5 w4.heap.size 29 #[(.slice C1 en.length f1), (.slice C2 tr.length f2), (.slice C3 sw.length f3), (.bool hi)] := by
    rw [← hwn4]
    have h := (((hz4.set_ 0 ((.slice C1 en.length f1))).set_ 1 ((.slice C2 tr.length f2))).set_ 2 ((.slice C3 sw.length f3))).set_ 3 ((.bool hi))
    simpa using h
  have hY4 : Below w4.heap.size w4 w5 := by
    rw [← hwn4]
    exact (((bl_set bz4 (by dsimp only; omega) _).setCell (by dsimp only; omega) _).setCell (by dsimp only; omega) _).setCell (by dsimp only; omega) _
  have HX5 := Lib.hid hX4
  have HY5 := Lib.hid hY4
  have hs5 := hY4.size
  have HB25 : Hid (Below w2.heap.size w2 w5) := Lib.hid (bl_trans HY3.out (bl_trans HB4.out HY5.out))
  have HB15 : Hid (Below w1.heap.size w1 w5) := Lib.hid (bl_trans HB2.out HB25.out)
  have HB05 : Hid (Below w.heap.size w w5) := Lib.hid (bl_trans HB1.out HB15.out)
  have HX35 := Lib.hid (HX3.out.below (bl_trans HB4.out HY5.out) HX3.out.lt)
  have HE5 := Lib.hid (HE2.out.below HB25.out)
  have HTR5 := Lib.hid (HTR2.out.below HB25.out)
  have HSW5 := Lib.hid (HSW2.out.below HB25.out)
  have HRN5 : Hid (RnAt w5 B1 en.length B2 tr.length B3 sw.length en tr sw) := Lib.hid ⟨HE5.out.reads, HTR5.out.reads, HSW5.out.reads⟩
  have HRM5 : Hid (RnAt w5 C1 en.length C2 tr.length C3 sw.length en tr sw) := Lib.hid ⟨(HE4.out.below HY5.out).reads, (HTR4.out.below HY5.out).reads, (HSW4.out.below HY5.out).reads⟩
  have HT5 := Lib.hid ((HT1.out.below HB15.out).more (by omega : w1.heap.size ≤ w5.heap.size))
  have HJ5 := Lib.hid ((HJ1.out.below HB15.out).more (by omega : w1.heap.size ≤ w5.heap.size))
  have HEG5 := Lib.hid (HE.out.below HB05.out)
  have HSM := Lib.hid (iSame_is w5 B1 en.length d1 B2 tr.length d2 B3 sw.length d3 hi en tr sw C1 en.length f1 C2 tr.length f2 C3 sw.length f3 hi en tr sw HRN5.out HRM5.out (by have := HLN.out; omega) (by have := HLN.out; omega) (by have := HLN.out; omega) (by have := HLN.out; omega) (by have := HLN.out; omega) (by have := HLN.out; omega) true (sameR_self _ _ _ _))
  obtain ⟨x0, x1, x2, x3⟩ := Blk.quad HX35.out
  obtain ⟨y0, y1, y2, y3⟩ := Blk.quad HX5.out
  clear hX4 hY4 hz4 bz4 HT3 HJ3 HX3 HTR4 HE4 HSW4
  cases b
  · go_wp2_with fail
    refine HSM.out.mono ?_
    rintro e w6 ⟨rfl, hb6⟩
    have HB6 := Lib.hid hb6
    have HSM2 := Lib.hid (iSame_is w6 B1 en.length d1 B2 tr.length d2 B3 sw.length d3 hi en tr sw C1 en.length f1 C2 tr.length f2 C3 sw.length f3 hi en tr sw (HRN5.out.below hb6) (HRM5.out.below hb6) (by have := HLN.out; omega) (by have := HLN.out; omega) (by have := HLN.out; omega) (by have := HLN.out; omega) (by have := HLN.out; omega) (by have := HLN.out; omega) true (sameR_self _ _ _ _))
    obtain ⟨u0, u1, u2, u3⟩ := Blk.quad (HX35.out.below hb6 HX35.out.lt)
    obtain ⟨v0, v1, v2, v3⟩ := Blk.quad (HX5.out.below hb6 HX5.out.lt)
    clear hb6 x0 x1 x2 x3 y0 y1 y2 y3 hwz4 hwn4 za4 zb4 zc4 zd4 zf4
    go_wp2_with fail
    refine HSM2.out.mono ?_
    rintro e w7 ⟨rfl, hb7⟩
    have HB7 := Lib.hid (bl_trans HB05.out (bl_trans HB6.out hb7))
    clear hb7 u0 u1 u2 u3 v0 v1 v2 v3
    go_wp2
    go_ret
    exact ⟨rfl, HB7.out⟩
  have hv : jobsB ts js = true := (okR_iff.1 HOK.out).1
  have htk : 0 ≤ tk ∧ tk ≤ 200 := (okR_iff.1 HOK.out).2.2
  obtain ⟨T, hT⟩ : ∃ T : Nat, tk = (T : Int) := ⟨tk.toNat, by omega⟩
  subst hT
  have hT2 : T ≤ 200 := by omega
  have HRUN : Hid (runM ts js (poOf ts pol) T = ⟨en, tr, sw, hi, wkx, nxx⟩) := Lib.hid (by rw [← HS.out, runR_ok HOK.out]; rfl)
  have HV := Lib.hid hv
  have hj60 : js.length ≤ 60 := (wrsB_iff.1 (jobs_wrs hv)).1
  clear hv htk
  go_wp2_with fail
  refine HSM.out.mono ?_
  clear HSM hwz4 hwn4 za4 zb4 zc4 zd4 zf4 x0 x1 x2 x3 y0 y1 y2 y3 HRM5
  rintro e w6 ⟨rfl, hb6⟩
  have HB6 := Lib.hid hb6
  have HB06 : Hid (Below w.heap.size w w6) := Lib.hid (bl_trans HB05.out hb6)
  have HX6 := Lib.hid (HX35.out.below hb6 HX35.out.lt)
  have HE6 := Lib.hid (HE5.out.below hb6)
  have HTR6 := Lib.hid (HTR5.out.below hb6)
  have HSW6 := Lib.hid (HSW5.out.below hb6)
  have HT6 := Lib.hid ((HT5.out.below hb6).more hb6.size)
  have HJ6 := Lib.hid ((HJ5.out.below hb6).more hb6.size)
  have HEG6 := Lib.hid (HEG5.out.below hb6)
  have hs6 := hb6.size
  clear hb6 HX35 HE5 HTR5 HSW5 HT5 HJ5 HEG5 HB6 HX5 HB25 HB15 HB4 HY5 HRN5 HE2 HTR2 HSW2 HT1 HJ1 HO1 HOJ1 HB1 HB2 HY3 HE
  have HD6 := Lib.hid (Below.refl w6.heap.size w6)
  have hv : jobsB ts js = true := HV.out
  have htr : tr.length = T := by
    have := tr_len (p := poOf ts pol) hv T
    rw [HRUN.out] at this
    exact this
  have hen : en.length = js.length := by
    have := en_len (p := poOf ts pol) hv T
    rw [HRUN.out] at this
    exact this
  have HTL := Lib.hid htr
  have HENL := Lib.hid hen
  have hlen := HLN.out
  clear htr hen
  obtain ⟨M, hM⟩ : ∃ M, T / 2 = M := ⟨_, rfl⟩
  have hMT : M ≤ T := by omega
  have hok8 : okR ts js pol (M : Int) = true := okR_iff.2 ⟨hv, (okR_iff.1 HOK.out).2.1, by omega, by omega⟩
  have HTA := Lib.hid (tr_take (p := poOf ts pol) hv hMT)
  have HSP := Lib.hid (sw_prefix (p := poOf ts pol) hv hMT)
  have HT2 := Lib.hid (tr_len (p := poOf ts pol) hv M)
  rw [HRUN.out] at HTA HSP
  dsimp only at HTA HSP
  have kd : Int.tdiv (T : Int) 2 = (M : Int) := by rw [← hM]; exact Int.ofNat_tdiv T 2
  have kd2 : (T : Int) / 2 = (M : Int) := by omega
  have kw : IntKind.i64.wrap (M : Int) = (M : Int) := IntWalk.i64_in _ (by omega)
  clear hv hM
  have HR8 := Lib.hid (iRunJobs_is w6 A1 ts.length c1 ts HT6.out (by omega) A2 js.length c2 js HJ6.out pol (M : Nat) e0 HEG6.out)
  rw [hok8, runR_ok hok8, Int.toNat_natCast] at HR8
  obtain ⟨s8, hs8⟩ : ∃ s, runM ts js (poOf ts pol) M = s := ⟨_, rfl⟩
  rw [hs8] at HR8
  have HRUN8 := Lib.hid hs8
  clear hs8 hok8
  go_wp2_with fail
  refine HR8.out.mono ?_
  clear HR8
  obtain ⟨en8, tr8, sw8, hi8, wk8, nx8⟩ := s8
  rintro e v8 ⟨D1, g1, D2, g2, D3, g3, rfl, o1, o2, o3, _, _, _, hb⟩
  dsimp only at o1 o2 o3 ⊢
  have HBr8 := Lib.hid hb
  have hz80 := hb.size
  have HEr8 := Lib.hid o1
  have HTr8 := Lib.hid o2
  have HSr8 := Lib.hid o3
  clear hb o1 o2 o3
  obtain ⟨wz8, hwz8⟩ : ∃ wz, v8.alloc (.cells #[.slice none 0 0, .slice none 0 0, .slice none 0 0, .bool false] 29) = wz := ⟨_, rfl⟩
  have hz8 : Blk wz8 v8.heap.size 29 #[.slice none 0 0, .slice none 0 0, .slice none 0 0, .bool false] := hwz8 ▸ Blk.new v8 _ _
  have bz8 : Below v8.heap.size v8 wz8 := hwz8 ▸ bl_alloc (Below.refl _ _) _
  obtain ⟨za8, zb8, zc8, zd8⟩ := Blk.quad hz8
  have zf8 := hz8.frozen
  obtain ⟨u8, hwn8⟩ : ∃ wn, (((wz8.setCell ⟨v8.heap.size, 0, none⟩ (.slice D1 en8.length g1)).setCell ⟨v8.heap.size, 1, none⟩ (.slice D2 tr8.length g2)).setCell ⟨v8.heap.size, 2, none⟩ (.slice D3 sw8.length g3)).setCell ⟨v8.heap.size, 3, none⟩ (.bool hi8) = wn := ⟨_, rfl⟩
  have hX8 : Blk u8 v8.heap.size 29 #[(.slice D1 en8.length g1), (.slice D2 tr8.length g2), (.slice D3 sw8.length g3), (.bool hi8)] := by
    rw [← hwn8]
    have h := (((hz8.set_ 0 ((.slice D1 en8.length g1))).set_ 1 ((.slice D2 tr8.length g2))).set_ 2 ((.slice D3 sw8.length g3))).set_ 3 ((.bool hi8))
    simpa using h
  have hY8 : Below v8.heap.size v8 u8 := by
    rw [← hwn8]
    exact (((bl_set bz8 (by dsimp only; omega) _).setCell (by dsimp only; omega) _).setCell (by dsimp only; omega) _).setCell (by dsimp only; omega) _
  have HX8 := Lib.hid hX8
  have HD8 : Hid (Below w6.heap.size w6 u8) := Lib.hid (bl_trans HBr8.out hY8)
  have HE8 := Lib.hid (HEr8.out.below hY8)
  have HTR8 := Lib.hid (HTr8.out.below hY8)
  have HSW8 := Lib.hid (HSr8.out.below hY8)
  clear hX8 hY8 hz8 bz8 HEr8 HTr8 HSr8 HBr8
  obtain ⟨y0, y1, y2, y3⟩ := Blk.quad HX8.out
  go_wp2_with fail
  rw [HRUN8.out] at HTA HSP HT2
  dsimp only at HTA HSP HT2
  obtain ⟨l, hl⟩ := HSP.out
  have hsl : sw8.length ≤ sw.length := by rw [hl, List.length_append]; omega
  have hst : sw.take sw8.length = sw8 := by rw [hl, List.take_left']; rfl
  have HTR8' := Lib.hid (HTR6.out.below HD8.out)
  have HSW8' := Lib.hid (HSW6.out.below HD8.out)
  have hM2 : tr8.length = M := HT2.out
  have HL1 : Hid (∀ (W : World) (nn c c' : Nat), nn = M → Below u8.heap.size u8 W → Calls Tryz.prog 25 #[.slice B2 nn c, .slice D2 tr8.length c'] W fun e w' => e = .returned (.bool true) ∧ Below W.heap.size W w') := Lib.hid fun W nn c c' hnn hD => by
    subst hnn
    rw [hM2]
    refine dmInts_any W B2 D2 nn c c' tr8 ?_ ?_ (by omega)
    · have h := (zs_take ((HTR8'.out.below hD).reads) (k := nn) (by have := HTL.out; omega))
      rw [HTA.out] at h
      exact h
    · have h := (HTR8.out.below hD).reads
      rw [hM2] at h
      exact h
  have HL2 : Hid (∀ (W : World) (nn c c' : Nat), nn = sw8.length → Below u8.heap.size u8 W → Calls Tryz.prog 25 #[.slice B3 nn c, .slice D3 sw8.length c'] W fun e w' => e = .returned (.bool true) ∧ Below W.heap.size W w') := Lib.hid fun W nn c c' hnn hD => by
    subst hnn
    refine dmInts_any W B3 D3 _ c c' sw8 ?_ ((HSW8.out.below hD).reads) (by omega)
    have h := (zs_take ((HSW8'.out.below hD).reads) hsl)
    rw [hst] at h
    exact h
  have HX68 := Lib.hid (HX6.out.below HD8.out HX6.out.lt)
  obtain ⟨x0, x1, x2, x3⟩ := Blk.quad HX68.out
  have hz := HX68.out.lt
  have hz8 := HX8.out.lt
  have e3 : decide ((sw8.length : Int) ≤ (sw.length : Int)) = true := decide_eq_true (by omega)
  have e4 : decide (sw8.length ≤ sw.length) = true := decide_eq_true hsl
  have hTl := HTL.out
  have HSL := Lib.hid hl
  clear hM2 hst hl y0 y3 x0 x3
  have kn1 := capz HTR8'.out
  have kn2 := capz HSW8'.out
  have j1 : (0 : Int) ≤ (M : Int) := by omega
  have i1 : (0 : Int) ≤ (sw8.length : Int) := by omega
  rcases kn1 with ⟨rfl, k1, rfl⟩ | ⟨gt, rfl, k1, k1'⟩
  · obtain rfl : M = 0 := by omega
    rcases kn2 with ⟨rfl, k2, rfl⟩ | ⟨gs, rfl, k2, k2'⟩
    · obtain rfl : sw8 = [] := List.eq_nil_of_length_eq_zero (by omega)
      simp only [List.length_nil] at HL2
      go_region_held3 (fun W => W.cell? ⟨w2.heap.size, 1, none⟩ = some (.slice none tr.length 0) ∧ W.cell? ⟨w2.heap.size, 2, none⟩ = some (.slice none sw.length 0) ∧ W.cell? ⟨v8.heap.size, 1, none⟩ = some (.slice D2 tr8.length g2) ∧ W.cell? ⟨v8.heap.size, 2, none⟩ = some (.slice D3 0 g3)) (first | exact ⟨x1, x2, y1, y2⟩ | exact ⟨f1, f2, f3, f4⟩ | exact ⟨q1, q2, q3, q4⟩ | (simp [go_sem, *]; done))
        ((first
          | (go_at_call 25; (with_reducible refine (HL1.out _ _ _ _ ?_ ?_).mono ?_); (· omega); (· (repeat (first | with_reducible exact Below.refl _ _ | with_reducible refine Below.drew ?_ | with_reducible refine bl_drewN ?_ _))); rintro e w9 ⟨rfl, hb⟩; have HS9 := Lib.hid (show Below u8.heap.size u8 w9 from bl_trans (by (repeat (first | with_reducible exact Below.refl _ _ | with_reducible refine Below.drew ?_ | with_reducible refine bl_drewN ?_ _))) hb); have f1 := (HS9.out.cell (p := ⟨w2.heap.size, 1, none⟩) (by dsimp only; omega)).trans x1; have f2 := (HS9.out.cell (p := ⟨w2.heap.size, 2, none⟩) (by dsimp only; omega)).trans x2; have f3 := (HS9.out.cell (p := ⟨v8.heap.size, 1, none⟩) (by dsimp only; omega)).trans y1; have f4 := (HS9.out.cell (p := ⟨v8.heap.size, 2, none⟩) (by dsimp only; omega)).trans y2; clear hb)
          | (go_at_call 25; (with_reducible refine (HL2.out _ _ _ _ ?_ ?_).mono ?_); (· omega); (· (repeat (first | with_reducible exact HS9.out | with_reducible refine Below.drew ?_ | with_reducible refine bl_drewN ?_ _))); rintro e w10 ⟨rfl, hb⟩; have HS10 := Lib.hid (show Below u8.heap.size u8 w10 from bl_trans (by repeat (first | with_reducible exact HS9.out | with_reducible refine Below.drew ?_ | with_reducible refine bl_drewN ?_ _)) hb); have q1 := (HS10.out.cell (p := ⟨w2.heap.size, 1, none⟩) (by dsimp only; omega)).trans x1; have q2 := (HS10.out.cell (p := ⟨w2.heap.size, 2, none⟩) (by dsimp only; omega)).trans x2; have q3 := (HS10.out.cell (p := ⟨v8.heap.size, 1, none⟩) (by dsimp only; omega)).trans y1; have q4 := (HS10.out.cell (p := ⟨v8.heap.size, 2, none⟩) (by dsimp only; omega)).trans y2; clear hb)))
      all_goals
        have HB9 := Lib.hid (bl_trans HB06.out (bl_trans HD8.out HS10.out))
        go_wp2
        go_ret
        exact ⟨by first | rfl | (simp; done), by repeat (first | with_reducible exact HB9.out | with_reducible refine Below.drew ?_ | with_reducible refine bl_drewN ?_ _)⟩
    · have i2 : (sw8.length : Int) ≤ (d3 : Int) := by omega
      have i3 : sw8.length ≤ d3 := by omega
      go_region_held3 (fun W => W.cell? ⟨w2.heap.size, 1, none⟩ = some (.slice none tr.length 0) ∧ W.cell? ⟨w2.heap.size, 2, none⟩ = some (.slice (some ⟨gs, 0, none⟩) sw.length d3) ∧ W.cell? ⟨v8.heap.size, 1, none⟩ = some (.slice D2 tr8.length g2) ∧ W.cell? ⟨v8.heap.size, 2, none⟩ = some (.slice D3 sw8.length g3)) (first | exact ⟨x1, x2, y1, y2⟩ | exact ⟨f1, f2, f3, f4⟩ | exact ⟨q1, q2, q3, q4⟩ | (simp [go_sem, *]; done))
        ((first
          | (go_at_call 25; (with_reducible refine (HL1.out _ _ _ _ ?_ ?_).mono ?_); (· omega); (· (repeat (first | with_reducible exact Below.refl _ _ | with_reducible refine Below.drew ?_ | with_reducible refine bl_drewN ?_ _))); rintro e w9 ⟨rfl, hb⟩; have HS9 := Lib.hid (show Below u8.heap.size u8 w9 from bl_trans (by (repeat (first | with_reducible exact Below.refl _ _ | with_reducible refine Below.drew ?_ | with_reducible refine bl_drewN ?_ _))) hb); have f1 := (HS9.out.cell (p := ⟨w2.heap.size, 1, none⟩) (by dsimp only; omega)).trans x1; have f2 := (HS9.out.cell (p := ⟨w2.heap.size, 2, none⟩) (by dsimp only; omega)).trans x2; have f3 := (HS9.out.cell (p := ⟨v8.heap.size, 1, none⟩) (by dsimp only; omega)).trans y1; have f4 := (HS9.out.cell (p := ⟨v8.heap.size, 2, none⟩) (by dsimp only; omega)).trans y2; clear hb)
          | (go_at_call 25; (with_reducible refine (HL2.out _ _ _ _ ?_ ?_).mono ?_); (· omega); (· (repeat (first | with_reducible exact HS9.out | with_reducible refine Below.drew ?_ | with_reducible refine bl_drewN ?_ _))); rintro e w10 ⟨rfl, hb⟩; have HS10 := Lib.hid (show Below u8.heap.size u8 w10 from bl_trans (by repeat (first | with_reducible exact HS9.out | with_reducible refine Below.drew ?_ | with_reducible refine bl_drewN ?_ _)) hb); have q1 := (HS10.out.cell (p := ⟨w2.heap.size, 1, none⟩) (by dsimp only; omega)).trans x1; have q2 := (HS10.out.cell (p := ⟨w2.heap.size, 2, none⟩) (by dsimp only; omega)).trans x2; have q3 := (HS10.out.cell (p := ⟨v8.heap.size, 1, none⟩) (by dsimp only; omega)).trans y1; have q4 := (HS10.out.cell (p := ⟨v8.heap.size, 2, none⟩) (by dsimp only; omega)).trans y2; clear hb)))
      all_goals
        have HB9 := Lib.hid (bl_trans HB06.out (bl_trans HD8.out HS10.out))
        go_wp2
        go_ret
        exact ⟨by first | rfl | (simp; done), by repeat (first | with_reducible exact HB9.out | with_reducible refine Below.drew ?_ | with_reducible refine bl_drewN ?_ _)⟩
  · have j2 : (M : Int) ≤ (d2 : Int) := by omega
    have j3 : M ≤ d2 := by omega
    rcases kn2 with ⟨rfl, k2, rfl⟩ | ⟨gs, rfl, k2, k2'⟩
    · obtain rfl : sw8 = [] := List.eq_nil_of_length_eq_zero (by omega)
      simp only [List.length_nil] at HL2
      go_region_held3 (fun W => W.cell? ⟨w2.heap.size, 1, none⟩ = some (.slice (some ⟨gt, 0, none⟩) tr.length d2) ∧ W.cell? ⟨w2.heap.size, 2, none⟩ = some (.slice none sw.length 0) ∧ W.cell? ⟨v8.heap.size, 1, none⟩ = some (.slice D2 tr8.length g2) ∧ W.cell? ⟨v8.heap.size, 2, none⟩ = some (.slice D3 0 g3)) (first | exact ⟨x1, x2, y1, y2⟩ | exact ⟨f1, f2, f3, f4⟩ | exact ⟨q1, q2, q3, q4⟩ | (simp [go_sem, *]; done))
        ((first
          | (go_at_call 25; (with_reducible refine (HL1.out _ _ _ _ ?_ ?_).mono ?_); (· omega); (· (repeat (first | with_reducible exact Below.refl _ _ | with_reducible refine Below.drew ?_ | with_reducible refine bl_drewN ?_ _))); rintro e w9 ⟨rfl, hb⟩; have HS9 := Lib.hid (show Below u8.heap.size u8 w9 from bl_trans (by (repeat (first | with_reducible exact Below.refl _ _ | with_reducible refine Below.drew ?_ | with_reducible refine bl_drewN ?_ _))) hb); have f1 := (HS9.out.cell (p := ⟨w2.heap.size, 1, none⟩) (by dsimp only; omega)).trans x1; have f2 := (HS9.out.cell (p := ⟨w2.heap.size, 2, none⟩) (by dsimp only; omega)).trans x2; have f3 := (HS9.out.cell (p := ⟨v8.heap.size, 1, none⟩) (by dsimp only; omega)).trans y1; have f4 := (HS9.out.cell (p := ⟨v8.heap.size, 2, none⟩) (by dsimp only; omega)).trans y2; clear hb)
          | (go_at_call 25; (with_reducible refine (HL2.out _ _ _ _ ?_ ?_).mono ?_); (· omega); (· (repeat (first | with_reducible exact HS9.out | with_reducible refine Below.drew ?_ | with_reducible refine bl_drewN ?_ _))); rintro e w10 ⟨rfl, hb⟩; have HS10 := Lib.hid (show Below u8.heap.size u8 w10 from bl_trans (by repeat (first | with_reducible exact HS9.out | with_reducible refine Below.drew ?_ | with_reducible refine bl_drewN ?_ _)) hb); have q1 := (HS10.out.cell (p := ⟨w2.heap.size, 1, none⟩) (by dsimp only; omega)).trans x1; have q2 := (HS10.out.cell (p := ⟨w2.heap.size, 2, none⟩) (by dsimp only; omega)).trans x2; have q3 := (HS10.out.cell (p := ⟨v8.heap.size, 1, none⟩) (by dsimp only; omega)).trans y1; have q4 := (HS10.out.cell (p := ⟨v8.heap.size, 2, none⟩) (by dsimp only; omega)).trans y2; clear hb)))
      all_goals
        have HB9 := Lib.hid (bl_trans HB06.out (bl_trans HD8.out HS10.out))
        go_wp2
        go_ret
        exact ⟨by first | rfl | (simp; done), by repeat (first | with_reducible exact HB9.out | with_reducible refine Below.drew ?_ | with_reducible refine bl_drewN ?_ _)⟩
    · have i2 : (sw8.length : Int) ≤ (d3 : Int) := by omega
      have i3 : sw8.length ≤ d3 := by omega
      go_region_held3 (fun W => W.cell? ⟨w2.heap.size, 1, none⟩ = some (.slice (some ⟨gt, 0, none⟩) tr.length d2) ∧ W.cell? ⟨w2.heap.size, 2, none⟩ = some (.slice (some ⟨gs, 0, none⟩) sw.length d3) ∧ W.cell? ⟨v8.heap.size, 1, none⟩ = some (.slice D2 tr8.length g2) ∧ W.cell? ⟨v8.heap.size, 2, none⟩ = some (.slice D3 sw8.length g3)) (first | exact ⟨x1, x2, y1, y2⟩ | exact ⟨f1, f2, f3, f4⟩ | exact ⟨q1, q2, q3, q4⟩ | (simp [go_sem, *]; done))
        ((first
          | (go_at_call 25; (with_reducible refine (HL1.out _ _ _ _ ?_ ?_).mono ?_); (· omega); (· (repeat (first | with_reducible exact Below.refl _ _ | with_reducible refine Below.drew ?_ | with_reducible refine bl_drewN ?_ _))); rintro e w9 ⟨rfl, hb⟩; have HS9 := Lib.hid (show Below u8.heap.size u8 w9 from bl_trans (by (repeat (first | with_reducible exact Below.refl _ _ | with_reducible refine Below.drew ?_ | with_reducible refine bl_drewN ?_ _))) hb); have f1 := (HS9.out.cell (p := ⟨w2.heap.size, 1, none⟩) (by dsimp only; omega)).trans x1; have f2 := (HS9.out.cell (p := ⟨w2.heap.size, 2, none⟩) (by dsimp only; omega)).trans x2; have f3 := (HS9.out.cell (p := ⟨v8.heap.size, 1, none⟩) (by dsimp only; omega)).trans y1; have f4 := (HS9.out.cell (p := ⟨v8.heap.size, 2, none⟩) (by dsimp only; omega)).trans y2; clear hb)
          | (go_at_call 25; (with_reducible refine (HL2.out _ _ _ _ ?_ ?_).mono ?_); (· omega); (· (repeat (first | with_reducible exact HS9.out | with_reducible refine Below.drew ?_ | with_reducible refine bl_drewN ?_ _))); rintro e w10 ⟨rfl, hb⟩; have HS10 := Lib.hid (show Below u8.heap.size u8 w10 from bl_trans (by repeat (first | with_reducible exact HS9.out | with_reducible refine Below.drew ?_ | with_reducible refine bl_drewN ?_ _)) hb); have q1 := (HS10.out.cell (p := ⟨w2.heap.size, 1, none⟩) (by dsimp only; omega)).trans x1; have q2 := (HS10.out.cell (p := ⟨w2.heap.size, 2, none⟩) (by dsimp only; omega)).trans x2; have q3 := (HS10.out.cell (p := ⟨v8.heap.size, 1, none⟩) (by dsimp only; omega)).trans y1; have q4 := (HS10.out.cell (p := ⟨v8.heap.size, 2, none⟩) (by dsimp only; omega)).trans y2; clear hb)))
      all_goals
        have HB9 := Lib.hid (bl_trans HB06.out (bl_trans HD8.out HS10.out))
        go_wp2
        go_ret
        exact ⟨by first | rfl | (simp; done), by repeat (first | with_reducible exact HB9.out | with_reducible refine Below.drew ?_ | with_reducible refine bl_drewN ?_ _)⟩
end Go.Proofs.YtgponahmkjohiaaGreatDoor
