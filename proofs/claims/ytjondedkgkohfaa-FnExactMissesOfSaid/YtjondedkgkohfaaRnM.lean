/- Contracts of MissesOf, the program's and the reference's. -/
import Derived.Test.YtjondedkgkohfaaRnA
import Derived.Test.YtjondedkgkohfaaRnD
import Derived.Test.YtjondedkgkohfaaQPlJ
import Derived.Test.YtjondedkgkohfaaQVal
import Derived.Test.YtjondedkgkohfaaQNe
import Derived.Test.YtjondedkgkohfaaSJv
import Derived.Test.YtjondedkgkohfaaJbB
import Derived.Deep.QuietTactic
import Derived.BigQuiet
import Derived.LoopTactic
namespace Go.Proofs.Ytjondedkgkohfaa
open Go.RowKit
set_option linter.unusedVariables false

def missX (x z : Int) (n : Nat) : Bool := if x = -1 then decide (z ≤ (n : Int)) else decide (z < x)
def missB (ts : List Tk) (js : List Jb) (en : List Int) (n : Nat) (q : Nat) : Bool := missX (en.getD q 0) (dueJ ts (js.getD q ⟨0, 0, 0⟩)).2 n
/-- The places of the jobs that are late. -/
def missV (ts : List Tk) (js : List Jb) (en : List Int) (n : Nat) : List Int := if jobsB ts js = true ∧ en.length = js.length then placesI (missB ts js en n) js.length else []
theorem due_ok {ts : List Tk} {js : List Jb} (h : jobsB ts js = true) {j : Jb} (hj : j ∈ js) : dueJ ts j = (true, j.tm + (tkOf ts j.ta).du) := by
  unfold dueJ
  rw [jobs_set h, jobs_job h hj]
  rfl

set_option maxRecDepth 100000 in
set_option maxHeartbeats 2000000 in
theorem iMissClo_is (W : World) (g1 g2 : Nat) (A : Option Addr) (n c : Nat) (ts : List Tk) (h : Tks W W.heap.size A n ts) (hn : n ≤ 1048576) (A1 : Option Addr) (n1 c1 : Nat) (en : List Int) (he : Zs W W.heap.size A1 n1 en) (A2 : Option Addr) (n2 c2 : Nat) (hi : Value) (A3 : Value)
    (h1 : Blk W g1 23 #[.slice A n c]) (h2 : Blk W g2 27 #[.slice A1 n1 c1, .slice A2 n2 c2, A3, hi]) (q : Nat) (j : Jb) (x : Int) (hx : en[q]? = some x) (z : Int) (hz : dueJ ts j = (true, z)) :
    Calls Try.prog 57 #[.int .i64 (q : Int), j.val, .pointer (some ⟨g1, 0, none⟩), .pointer (some ⟨g2, 0, none⟩)] W fun e W' => e = .returned (.bool (missX x z n2)) ∧ Below W.heap.size W W' := by
  obtain ⟨ta, tm, ne⟩ := j
  have HZ := Lib.hid hz
  have hq : q < n1 := by rw [← he.len]; exact (List.getElem?_eq_some_iff.1 hx).1
  have q2 : (q : Int) < (n1 : Int) := by omega
  have q1 : (0 : Int) ≤ (q : Int) := by omega
  obtain ⟨b, o, rfl, hbl, c0⟩ := he.at_ q x hx
  have HBJ := Lib.hid (bl_alloc (Below.refl W.heap.size W) (.cells #[.int .i64 ta, .int .i64 tm, .int .i64 ne] 35))
  have cJ := (Blk.new W 35 #[.int .i64 ta, .int .i64 tm, .int .i64 ne]).cell
  have cL := (h1.alloc (.cells #[.int .i64 ta, .int .i64 tm, .int .i64 ne] 35)).cell
  have HX := Lib.hid (iDueAt_is _ A n c ts ((h.below HBJ.out).more HBJ.out.size) hn ⟨ta, tm, ne⟩ true z hz)
  have HR := Lib.hid h2
  have HC := Lib.hid c0
  have hbl' := hbl
  unfold Jb.val
  dsimp only
  clear hz h he h1 h2 hx c0
  go_enter Try.func57, Try.ntmps57
  go_wp2_with fail
  refine HX.out.mono ?_
  rintro e w1 ⟨rfl, hb⟩
  have HB := Lib.hid (bl_trans HBJ.out hb)
  have cR := (HR.out.below HB.out HR.out.lt).cell
  have c0 := (HB.out.cell (p := ⟨b, o + q, none⟩) hbl').trans HC.out
  clear hb cJ cL
  by_cases hx1 : x = -1
  · subst hx1
    go_wp2
    go_ret
    exact ⟨rfl, HB.out⟩
  · have t1 : (x == -1) = false := by simpa using hx1
    have HE := Lib.hid (show missX x z n2 = decide (z < x) by unfold missX; rw [if_neg hx1])
    clear hx1
    go_wp2
    go_ret
    exact ⟨by rw [HE.out]; rfl, HB.out⟩

theorem miss_no {ts : List Tk} {js : List Jb} {en : List Int} {n : Nat} (h : ¬ (jobsB ts js = true ∧ en.length = js.length)) : missV ts js en n = [] := by unfold missV; rw [if_neg h]

set_option maxRecDepth 100000 in
set_option maxHeartbeats 4000000 in
theorem iMiss_is (w : World) (A : Option Addr) (n c : Nat) (ts : List Tk) (h : Tks w w.heap.size A n ts) (hn : n ≤ 1048576) (Aj : Option Addr) (m cj : Nat) (js : List Jb) (hj : Jbs w w.heap.size Aj m js) (A1 : Option Addr) (n1 c1 : Nat) (A2 : Option Addr) (n2 c2 : Nat) (A3 : Option Addr) (n3 c3 : Nat) (hi : Bool) (en : List Int) (he : Zs w w.heap.size A1 n1 en) (us : List Int) (hu : missV ts js en n2 = us) :
    Calls Try.prog 18 #[.slice A n c, .slice Aj m cj, .agg #[.slice A1 n1 c1, .slice A2 n2 c2, .slice A3 n3 c3, .bool hi]] w (ZsRes us w) := by
  have HB0 := Lib.hid (bl_alloc (bl_alloc (Below.refl w.heap.size w) (.cells #[.slice A n c] 23)) (.cells #[.slice A1 n1 c1, .slice A2 n2 c2, .slice A3 n3 c3, .bool hi] 27))
  have bL := Lib.hid ((Blk.new w 23 #[.slice A n c]).alloc (.cells #[.slice A1 n1 c1, .slice A2 n2 c2, .slice A3 n3 c3, .bool hi] 27))
  have bR : Hid (Blk ((w.alloc (.cells #[.slice A n c] 23)).alloc (.cells #[.slice A1 n1 c1, .slice A2 n2 c2, .slice A3 n3 c3, .bool hi] 27)) (w.heap.size + 1) 27 #[.slice A1 n1 c1, .slice A2 n2 c2, .slice A3 n3 c3, .bool hi]) := by
    have h := Blk.new (w.alloc (.cells #[.slice A n c] 23)) 27 #[.slice A1 n1 c1, .slice A2 n2 c2, .slice A3 n3 c3, .bool hi]
    exact Lib.hid (by simpa using h)
  have H := Lib.hid ((h.below HB0.out).more HB0.out.size)
  have J := Lib.hid ((hj.below HB0.out).more HB0.out.size)
  have E := Lib.hid ((he.below HB0.out).more HB0.out.size)
  have HM := Lib.hid hj.len
  have HEL := Lib.hid he.len
  have HU := Lib.hid hu
  have cL := bL.out.cell
  clear h hj he hu
  obtain ⟨b, hjb⟩ : ∃ b, jobsB ts js = b := ⟨_, rfl⟩
  have HX := Lib.hid (iJobs_is _ A n c ts H.out hn Aj m cj js J.out b hjb)
  cases b
  · obtain rfl : us = [] := by rw [← HU.out]; exact miss_no (fun h => by rw [hjb] at h; cases h.1)
    clear hjb
    go_enter Try.func18, Try.ntmps18
    go_wp2_with fail
    refine HX.out.mono ?_
    rintro e w1 ⟨rfl, hb⟩
    have HB1 := Lib.hid (bl_trans HB0.out hb)
    clear hb
    go_wp2
    go_ret
    exact ⟨none, 0, rfl, ⟨rfl, .inl ⟨rfl, rfl⟩⟩, HB1.out⟩
  by_cases hne : n1 = m
  case neg =>
    obtain rfl : us = [] := by rw [← HU.out]; exact miss_no (fun h => by have := h.2; rw [HM.out, HEL.out] at this; exact hne this)
    have t1 : ((n1 : Int) == (m : Int)) = false := by rw [beq_eq_false_iff_ne]; omega
    have t2 : ((n1 : Int) != (m : Int)) = true := by rw [bne_iff_ne]; omega
    have t3 : ¬ (n1 : Int) = (m : Int) := by omega
    clear hjb
    go_enter Try.func18, Try.ntmps18
    go_wp2_with fail
    refine HX.out.mono ?_
    rintro e w1 ⟨rfl, hb⟩
    have HB1 := Lib.hid (bl_trans HB0.out hb)
    have cR := (bR.out.below hb (by simp)).cell
    clear hb
    go_wp2
    go_ret
    exact ⟨none, 0, rfl, ⟨rfl, .inl ⟨rfl, rfl⟩⟩, HB1.out⟩
  subst hne
  obtain rfl : us = placesI (missB ts js en n2) n1 := by
    rw [← HU.out]
    unfold missV
    rw [if_pos ⟨hjb, by rw [HM.out, HEL.out]⟩, HM.out]
  have hm60 : n1 ≤ 60 := by have := jobs_len hjb; rw [HM.out] at this; exact this
  have HJB := Lib.hid hjb
  clear hjb
  go_enter Try.func18, Try.ntmps18
  go_wp2_with fail
  refine HX.out.mono ?_
  rintro e w1 ⟨rfl, hb⟩
  have HB1 := Lib.hid (bl_trans HB0.out hb)
  have bL1 := Lib.hid (bL.out.below hb (by simp <;> omega))
  have bR1 := Lib.hid (bR.out.below hb (by simp))
  have H1 := Lib.hid ((H.out.below hb).more hb.size)
  have J1 := Lib.hid ((J.out.below hb).more hb.size)
  have E1 := Lib.hid ((E.out.below hb).more hb.size)
  have cR := bR1.out.cell
  clear hb HX cL
  go_wp2_with fail
  refine (iPlJ_is _ Aj n1 cj js J1.out (by omega) 57 #[.pointer (some ⟨w.heap.size, 0, none⟩), .pointer (some ⟨w.heap.size + 1, 0, none⟩)] (missB ts js en n2) (fun _ _ => rfl) (fun W q j hj hbW => ?_)).mono ?_
  · have hd : js.getD q ⟨0, 0, 0⟩ = j := by simp [List.getD, hj]
    have hqk : q < en.length := by rw [HEL.out, ← HM.out]; exact (List.getElem?_eq_some_iff.1 hj).1
    have hx : en[q]? = some (en[q]'hqk) := List.getElem?_eq_getElem hqk
    have hxd : en.getD q 0 = en[q]'hqk := by simp [List.getD, hx]
    have := iMissClo_is W w.heap.size (w.heap.size + 1) A n c ts ((H1.out.below hbW).more hbW.size) hn A1 n1 c1 en ((E1.out.below hbW).more hbW.size) A2 n2 c2 _ _ (bL1.out.below hbW bL1.out.lt) (bR1.out.below hbW bR1.out.lt) q j _ hx _ (due_ok HJB.out (List.mem_of_getElem? hj))
    unfold missB
    rw [hd, hxd, due_ok HJB.out (List.mem_of_getElem? hj)]
    exact this
  rintro e w2 ⟨A4, c4, rfl, ho, hb⟩
  have HB2 := Lib.hid (bl_trans HB1.out hb)
  have HO := Lib.hid (show OwnZ w2 w.heap.size _ _ from OwnZ.less ho HB1.out.size)
  clear ho hb
  go_wp2
  go_ret
  exact ⟨A4, c4, rfl, HO.out, HB2.out⟩

end Go.Proofs.Ytjondedkgkohfaa
