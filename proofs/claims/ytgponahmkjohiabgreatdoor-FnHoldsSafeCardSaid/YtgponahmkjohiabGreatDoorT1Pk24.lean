import Derived.LoopTactic
import Derived.Deep.QuietTactic
import Derived.BigQuiet
import Derived.Laws.IdiomStrings
import Derived.RegionTactic
import Derived.ChangeAlike
import Derived.BigRegion
import Derived.Maps.AppendAt
import Derived.Deep.RegionHeld3
import Derived.Lib.AppendZerosOnto
import Derived.Deep.AppendLies
import Derived.Test.YtgponahmkjohiabGreatDoorT1Pk23
namespace Go.Proofs.YtgponahmkjohiabGreatDoor
section
open Go.RowKit
set_option linter.unusedVariables false
theorem Blk.four {w : World} {g : Nat} {t : TypeId} {a b c d : Value} (h : Blk w g t #[a, b, c, d]) : w.cell? ⟨g, 0, none⟩ = some a ∧ w.cell? ⟨g, 1, none⟩ = some b ∧ w.cell? ⟨g, 2, none⟩ = some c ∧ w.cell? ⟨g, 3, none⟩ = some d := ⟨h.cell 0, h.cell 1, h.cell 2, h.cell 3⟩
/-- Three slices read as the lists of a run. -/
structure RnAt (w : World) (A1 : Option Addr) (n1 : Nat) (A2 : Option Addr) (n2 : Nat) (A3 : Option Addr) (n3 : Nat) (en tr sw : List Int) : Prop where
  e : Zs w w.heap.size A1 n1 en
  t : Zs w w.heap.size A2 n2 tr
  s : Zs w w.heap.size A3 n3 sw
theorem RnAt.below {w w' : World} {A1 A2 A3 : Option Addr} {n1 n2 n3 : Nat} {en tr sw : List Int} (h : RnAt w A1 n1 A2 n2 A3 n3 en tr sw) (hb : Below w.heap.size w w') : RnAt w' A1 n1 A2 n2 A3 n3 en tr sw :=
  ⟨(h.e.below hb).more hb.size, (h.t.below hb).more hb.size, (h.s.below hb).more hb.size⟩
/-- The copy of a run: three slices of the call's own, each in memory of its own. -/
def RnCopy (en tr sw : List Int) (hi : Bool) (w : World) (e : Ending) (w' : World) : Prop :=
  ∃ (A1 : Option Addr) (c1 : Nat) (A2 : Option Addr) (c2 : Nat) (A3 : Option Addr) (c3 s1 s2 : Nat), e = .returned (.agg #[.slice A1 en.length c1, .slice A2 tr.length c2, .slice A3 sw.length c3, .bool hi]) ∧
    OwnZ w' w.heap.size (.slice A1 en.length c1) en ∧ OwnZ w' s1 (.slice A2 tr.length c2) tr ∧ OwnZ w' s2 (.slice A3 sw.length c3) sw ∧
    (∀ k, (Value.slice A1 en.length c1).ownBlock = some k → k < s1) ∧ (∀ k, (Value.slice A2 tr.length c2).ownBlock = some k → k < s2) ∧ w.heap.size ≤ s1 ∧ (s1 ≤ s2 ∧ s2 ≤ w'.heap.size) ∧ Below w.heap.size w w'
theorem RnCopy.reads {w' : World} {A1 A2 A3 : Option Addr} {c1 c2 c3 B s1 s2 : Nat} {en tr sw : List Int} (h1 : OwnZ w' B (.slice A1 en.length c1) en) (h2 : OwnZ w' s1 (.slice A2 tr.length c2) tr) (h3 : OwnZ w' s2 (.slice A3 sw.length c3) sw) :
    RnAt w' A1 en.length A2 tr.length A3 sw.length en tr sw := ⟨h1.reads, h2.reads, h3.reads⟩
end
section
open Go.RowKit
set_option linter.unusedVariables false
theorem OwnZ.kept_dn {w w' : World} {B M : Nat} {v : Value} {zs : List Int} {row : Option Nat} (h : OwnZ w B v zs) (hg : w.grownBy w' row) (hv : ∀ k, v.ownBlock = some k → k < M) (hr : ∀ k, row = some k → M ≤ k) : OwnZ w' B v zs := by
  refine World.ownsRow.kept h hg ?_
  rcases he : v.ownBlock with _ | k
  · exact .inl rfl
  · right
    intro e
    have := hv k he
    have := hr k e.symm
    omega
end
section
open Go.RowKit
set_option linter.unusedVariables false
def byV (b : UInt8) : Value := .int .u8 (b.toNat : Int)
/-- The slice is the call's own and holds these bytes. -/
def OwnB (w : World) (B : Nat) (v : Value) (l : List UInt8) : Prop := w.ownsRow B 5 1 v l.length (l.map byV)
theorem OwnB.alloc {w : World} {B : Nat} {v : Value} {l : List UInt8} (h : OwnB w B v l) (o : Obj) : OwnB (w.alloc o) B v l := World.ownsRow.alloc h o
theorem OwnB.snoc {w : World} {B : Nat} {v : Value} {l : List UInt8} {c : UInt8} (h : w.ownsRow B 5 1 v (l.length + 1) (l.map byV ++ [byV c])) : OwnB w B v (l ++ [c]) := by
  unfold OwnB
  rw [List.length_append, List.map_append]
  exact h
theorem OwnB.some_ {w : World} {B : Nat} {v : Value} {l : List UInt8} (h : OwnB w B v l) (hl : 0 < l.length) : ∃ g c, v = .slice (some ⟨g, 0, none⟩) l.length c := by
  rcases h.2 with ⟨e, h0⟩ | ⟨g, cap, cur, e, _⟩
  · omega
  · exact ⟨g, cap, e⟩
theorem OwnB.cell {w : World} {B g c : Nat} {l : List UInt8} (h : OwnB w B (.slice (some ⟨g, 0, none⟩) l.length c) l) (i : Nat) (hi : i < l.length) : w.cell? ⟨g, i, none⟩ = some (.int .u8 (l[i].toNat : Int)) := by
  have := World.ownsRow.cells (g := g) h rfl i (byV l[i]) (by rw [List.getElem?_map, List.getElem?_eq_getElem hi]; rfl)
  have ea : (⟨g, 0, none⟩ : Addr).add i = ⟨g, i, none⟩ := by unfold Addr.add; split <;> simp_all
  rw [ea] at this
  exact this
end
section
open Go.RowKit
set_option linter.unusedVariables false
def missX (x z : Int) (n : Nat) : Bool := if x = -1 then decide (z ≤ (n : Int)) else decide (z < x)
def missB (ts : List Tk) (js : List Jb) (en : List Int) (n : Nat) (q : Nat) : Bool := missX (en.getD q 0) (dueJ ts (js.getD q ⟨0, 0, 0⟩)).2 n
/-- The places of the jobs that are late. -/
def missV (ts : List Tk) (js : List Jb) (en : List Int) (n : Nat) : List Int := if jobsB ts js = true ∧ en.length = js.length then placesI (missB ts js en n) js.length else []
theorem due_ok {ts : List Tk} {js : List Jb} (h : jobsB ts js = true) {j : Jb} (hj : j ∈ js) : dueJ ts j = (true, j.tm + (tkOf ts j.ta).du) := by
  unfold dueJ
  rw [jobs_set h, jobs_job h hj]
  rfl
set_option maxRecDepth 100000 in
set_option maxHeartbeats 2000000 in
theorem iMissClo_is (W : World) (g1 g2 : Nat) (A : Option Addr) (n c : Nat) (ts : List Tk) (h : Tks W W.heap.size A n ts) (hn : n ≤ 1048576) (A1 : Option Addr) (n1 c1 : Nat) (en : List Int) (he : Zs W W.heap.size A1 n1 en) (A2 : Option Addr) (n2 c2 : Nat) (hi : Value) (A3 : Value)
    (h1 : Blk W g1 23 #[.slice A n c]) (h2 : Blk W g2 29 #[.slice A1 n1 c1, .slice A2 n2 c2, A3, hi]) (q : Nat) (j : Jb) (x : Int) (hx : en[q]? = some x) (z : Int) (hz : dueJ ts j = (true, z)) :
    Calls Tryz.prog 60 #[.int .i64 (q : Int), j.val, .pointer (some ⟨g1, 0, none⟩), .pointer (some ⟨g2, 0, none⟩)] W fun e W' => e = .returned (.bool (missX x z n2)) ∧ Below W.heap.size W W' := by
  obtain ⟨ta, tm, ne⟩ := j
  have HZ := Lib.hid hz
  have hq : q < n1 := by rw [← he.len]; exact (List.getElem?_eq_some_iff.1 hx).1
  have q2 : (q : Int) < (n1 : Int) := by omega
  have q1 : (0 : Int) ≤ (q : Int) := by omega
  obtain ⟨b, o, rfl, hbl, c0⟩ := he.at_ q x hx
  have HBJ := Lib.hid (bl_alloc (Below.refl W.heap.size W) (.cells #[.int .i64 ta, .int .i64 tm, .int .i64 ne] 46))
  have cJ := (Blk.new W 46 #[.int .i64 ta, .int .i64 tm, .int .i64 ne]).cell
  have cL := (h1.alloc (.cells #[.int .i64 ta, .int .i64 tm, .int .i64 ne] 46)).cell
  have HX := Lib.hid (iDueAt_is _ A n c ts ((h.below HBJ.out).more HBJ.out.size) hn ⟨ta, tm, ne⟩ true z hz)
  have HR := Lib.hid h2
  have HC := Lib.hid c0
  have hbl' := hbl
  unfold Jb.val
  dsimp only
  clear hz h he h1 h2 hx c0
  go_enter Tryz.func60, Tryz.ntmps60
  go_wp2_with fail
  refine HX.out.mono ?_
  rintro e w1 ⟨rfl, hb⟩
  have HB := Lib.hid (bl_trans HBJ.out hb)
  have cR := (HR.out.below HB.out HR.out.lt).cell
  have c0 := (HB.out.cell (p := ⟨b, o + q, none⟩) hbl').trans HC.out
  clear hb cJ cL
  by_cases hx1 : x = -1
  · subst hx1
    go_wp2
    go_ret
    exact ⟨rfl, HB.out⟩
  · have t1 : (x == -1) = false := by simpa using hx1
    have HE := Lib.hid (show missX x z n2 = decide (z < x) by unfold missX; rw [if_neg hx1])
    clear hx1
    go_wp2
    go_ret
    exact ⟨by rw [HE.out]; rfl, HB.out⟩
theorem miss_no {ts : List Tk} {js : List Jb} {en : List Int} {n : Nat} (h : ¬ (jobsB ts js = true ∧ en.length = js.length)) : missV ts js en n = [] := by unfold missV; rw [if_neg h]
set_option maxRecDepth 100000 in
set_option maxHeartbeats 4000000 in
theorem iMiss_is (w : World) (A : Option Addr) (n c : Nat) (ts : List Tk) (h : Tks w w.heap.size A n ts) (hn : n ≤ 1048576) (Aj : Option Addr) (m cj : Nat) (js : List Jb) (hj : Jbs w w.heap.size Aj m js) (A1 : Option Addr) (n1 c1 : Nat) (A2 : Option Addr) (n2 c2 : Nat) (A3 : Option Addr) (n3 c3 : Nat) (hi : Bool) (en : List Int) (he : Zs w w.heap.size A1 n1 en) (us : List Int) (hu : missV ts js en n2 = us) :
    Calls Tryz.prog 18 #[.slice A n c, .slice Aj m cj, .agg #[.slice A1 n1 c1, .slice A2 n2 c2, .slice A3 n3 c3, .bool hi]] w (ZsRes us w) := by
  have HB0 := Lib.hid (bl_alloc (bl_alloc (Below.refl w.heap.size w) (.cells #[.slice A n c] 23)) (.cells #[.slice A1 n1 c1, .slice A2 n2 c2, .slice A3 n3 c3, .bool hi] 29))
  have bL := Lib.hid ((Blk.new w 23 #[.slice A n c]).alloc (.cells #[.slice A1 n1 c1, .slice A2 n2 c2, .slice A3 n3 c3, .bool hi] 29))
  have bR : Hid (Blk ((w.alloc (.cells #[.slice A n c] 23)).alloc (.cells #[.slice A1 n1 c1, .slice A2 n2 c2, .slice A3 n3 c3, .bool hi] 29)) (w.heap.size + 1) 29 #[.slice A1 n1 c1, .slice A2 n2 c2, .slice A3 n3 c3, .bool hi]) := by
    have h := Blk.new (w.alloc (.cells #[.slice A n c] 23)) 29 #[.slice A1 n1 c1, .slice A2 n2 c2, .slice A3 n3 c3, .bool hi]
    exact Lib.hid (by simpa using h)
  have H := Lib.hid ((h.below HB0.out).more HB0.out.size)
  have J := Lib.hid ((hj.below HB0.out).more HB0.out.size)
  have E := Lib.hid ((he.below HB0.out).more HB0.out.size)
  have HM := Lib.hid hj.len
  have HEL := Lib.hid he.len
  have HU := Lib.hid hu
  have cL := bL.out.cell
  clear h hj he hu
  obtain ⟨b, hjb⟩ : ∃ b, jobsB ts js = b := ⟨_, rfl⟩
  have HX := Lib.hid (iJobs_is _ A n c ts H.out hn Aj m cj js J.out b hjb)
  cases b
  · obtain rfl : us = [] := by rw [← HU.out]; exact miss_no (fun h => by rw [hjb] at h; cases h.1)
    clear hjb
    go_enter Tryz.func18, Tryz.ntmps18
    go_wp2_with fail
    refine HX.out.mono ?_
    rintro e w1 ⟨rfl, hb⟩
    have HB1 := Lib.hid (bl_trans HB0.out hb)
    clear hb
    go_wp2
    go_ret
    exact ⟨none, 0, rfl, ⟨rfl, .inl ⟨rfl, rfl⟩⟩, HB1.out⟩
  by_cases hne : n1 = m
  case neg =>
    obtain rfl : us = [] := by rw [← HU.out]; exact miss_no (fun h => by have := h.2; rw [HM.out, HEL.out] at this; exact hne this)
    have t1 : ((n1 : Int) == (m : Int)) = false := by rw [beq_eq_false_iff_ne]; omega
    have t2 : ((n1 : Int) != (m : Int)) = true := by rw [bne_iff_ne]; omega
    have t3 : ¬ (n1 : Int) = (m : Int) := by omega
    clear hjb
    go_enter Tryz.func18, Tryz.ntmps18
    go_wp2_with fail
    refine HX.out.mono ?_
    rintro e w1 ⟨rfl, hb⟩
    have HB1 := Lib.hid (bl_trans HB0.out hb)
    have cR := (bR.out.below hb (by simp)).cell
    clear hb
    go_wp2
    go_ret
    exact ⟨none, 0, rfl, ⟨rfl, .inl ⟨rfl, rfl⟩⟩, HB1.out⟩
  subst hne
  obtain rfl : us = placesI (missB ts js en n2) n1 := by
    rw [← HU.out]
    unfold missV
    rw [if_pos ⟨hjb, by rw [HM.out, HEL.out]⟩, HM.out]
  have hm60 : n1 ≤ 60 := by have := jobs_len hjb; rw [HM.out] at this; exact this
  have HJB := Lib.hid hjb
  clear hjb
  go_enter Tryz.func18, Tryz.ntmps18
  go_wp2_with fail
  refine HX.out.mono ?_
  rintro e w1 ⟨rfl, hb⟩
  have HB1 := Lib.hid (bl_trans HB0.out hb)
  have bL1 := Lib.hid (bL.out.below hb (by simp <;> omega))
  have bR1 := Lib.hid (bR.out.below hb (by simp))
  have H1 := Lib.hid ((H.out.below hb).more hb.size)
  have J1 := Lib.hid ((J.out.below hb).more hb.size)
  have E1 := Lib.hid ((E.out.below hb).more hb.size)
  have cR := bR1.out.cell
  clear hb HX cL
  go_wp2_with fail
  refine (iPlJ_is _ Aj n1 cj js J1.out (by omega) 60 #[.pointer (some ⟨w.heap.size, 0, none⟩), .pointer (some ⟨w.heap.size + 1, 0, none⟩)] (missB ts js en n2) (fun _ _ => rfl) (fun W q j hj hbW => ?_)).mono ?_
  · have hd : js.getD q ⟨0, 0, 0⟩ = j := by simp [List.getD, hj]
    have hqk : q < en.length := by rw [HEL.out, ← HM.out]; exact (List.getElem?_eq_some_iff.1 hj).1
    have hx : en[q]? = some (en[q]'hqk) := List.getElem?_eq_getElem hqk
    have hxd : en.getD q 0 = en[q]'hqk := by simp [List.getD, hx]
    have := iMissClo_is W w.heap.size (w.heap.size + 1) A n c ts ((H1.out.below hbW).more hbW.size) hn A1 n1 c1 en ((E1.out.below hbW).more hbW.size) A2 n2 c2 _ _ (bL1.out.below hbW bL1.out.lt) (bR1.out.below hbW bR1.out.lt) q j _ hx _ (due_ok HJB.out (List.mem_of_getElem? hj))
    unfold missB
    rw [hd, hxd, due_ok HJB.out (List.mem_of_getElem? hj)]
    exact this
  rintro e w2 ⟨A4, c4, rfl, ho, hb⟩
  have HB2 := Lib.hid (bl_trans HB1.out hb)
  have HO := Lib.hid (show OwnZ w2 w.heap.size _ _ from OwnZ.less ho HB1.out.size)
  clear ho hb
  go_wp2
  go_ret
  exact ⟨A4, c4, rfl, HO.out, HB2.out⟩
end
end Go.Proofs.YtgponahmkjohiabGreatDoor

namespace Go.Proofs.YtgponahmkjohiabGreatDoor
open Go.RowKit
set_option linter.unusedVariables false
section
variable {ts : List Tk} {js : List Jb} {p : Po}
theorem missB_is (hv : jobsB ts js = true) {k : Nat} (hk : k < js.length) (en : List Int) (n : Nat) : missB ts js en n k = lateB (tkJ ts js k).du (jobOf js k).tm (en.getD k 0) n := by
  have hj := due_ok hv (List.mem_of_getElem? (job_get hk))
  have hok := tk_nums (job_ok hv hk).2.2.2.2.2.2.2
  have htm := (job_ok hv hk).2.1
  have e : js.getD k ⟨0, 0, 0⟩ = jobOf js k := rfl
  unfold missB
  rw [e, hj]
  unfold missX lateB tkJ
  dsimp only
  unfold tkJ at hok
  by_cases h : en.getD k 0 = -1
  · rw [if_pos h, h, decide_eq_false (show ¬ (jobOf js k).tm + (tkOf ts (jobOf js k).ta).du < -1 by omega)]
    simp
  · rw [if_neg h, decide_eq_false h]
    simp
theorem places_nil {P : Nat → Bool} : ∀ {n : Nat}, (∀ k, k < n → P k = false) → placesI P n = []
  | 0, _ => rfl
  | n + 1, h => by
    unfold placesI
    rw [h n (by omega), if_neg (by decide)]
    exact places_nil fun k hk => h k (by omega)
theorem miss_nil (hv : jobsB ts js = true) {en : List Int} {n : Nat} (h : ∀ k, k < js.length → lateB (tkJ ts js k).du (jobOf js k).tm (en.getD k 0) n = false) : missV ts js en n = [] := by
  unfold missV
  split
  · exact places_nil fun k hk => by rw [missB_is hv hk]; exact h k hk
  · rfl
/-- Tasks that hold in both modes are late with no job, by places. -/
theorem place_safe (hv : jobsB ts js = true) (hd : p.due = false) (hb : hBoth ts = true) (n : Nat) : missV ts js (runM ts js p n).en n = [] := by
  have hs := set_jobs hv
  have hall : ∀ i tk, ts[i]? = some tk → (if tk.cr then rSwi ts i else rLow ts i) = some ((if tk.cr then rSwi ts i else rLow ts i).getD 0) := fun i tk hi => by
    unfold hBoth at hb
    simp only [Bool.and_eq_true, List.all_eq_true] at hb
    have h1 := hb.2 i (List.mem_range.2 (List.getElem?_eq_some_iff.1 hi).1)
    unfold bothAt at h1
    rw [hi] at h1
    dsimp only at h1
    cases hc : tk.cr
    · rw [hc] at h1
      rw [if_neg (by decide)] at h1 ⊢
      obtain ⟨v, e⟩ := Option.isSome_iff_exists.1 h1
      rw [e]; rfl
    · rw [hc] at h1
      rw [if_pos rfl] at h1 ⊢
      obtain ⟨v, e⟩ := Option.isSome_iff_exists.1 h1
      rw [e]; rfl
  have hall2 : ∀ i tk, ts[i]? = some tk → (if tk.cr then rSwi ts i else rLow ts i) = some (match ts[i]? with | some t => (if t.cr then rSwi ts i else rLow ts i).getD 0 | none => 0) := fun i tk hi => by
    rw [hi]
    exact hall i tk hi
  have hA := both_all hv hd _ hall2
  refine miss_nil hv fun k hk => ?_
  have he := en_get (p := p) (n := n) hv hk
  refine not_late hv hk (fun t hl => ?_) he
  have h1 := hA k t hl
  have hj := job_ok hv hk
  obtain ⟨i, hi⟩ := Int.eq_ofNat_of_zero_le hj.2.2.2.1
  have hil : i < ts.length := by omega
  obtain ⟨tk, ht⟩ : ∃ tk, ts[i]? = some tk := ⟨ts[i], List.getElem?_eq_getElem _⟩
  have etk : tkJ ts js k = tk := by unfold tkJ; rw [hi]; exact tkOf_get ht
  rw [etk]
  rw [hi, Int.toNat_natCast, ht] at h1
  dsimp only at h1
  have hx := hall i tk ht
  have hok := tk_nums (set_ok hs (get_mem ht))
  have hle : (((if tk.cr then rSwi ts i else rLow ts i).getD 0 : Nat) : Int) ≤ tk.du := by
    by_cases hc : tk.cr = true
    · rw [if_pos hc] at hx ⊢
      obtain ⟨_, t', l, h2, _, h3, h4⟩ := rSwi_some hx
      rw [ht] at h2
      obtain rfl := Option.some.inj h2
      have := (swi_fix h4).2.2.1
      omega
    · rw [if_neg hc] at hx ⊢
      have := (resp_parts hs ht hx).2
      omega
  omega
/-- Tasks that hold with virtual deadlines are late with no job, by deadlines. -/
theorem due_safe (hv : jobsB ts js = true) (hb : virtV ts = true) (n : Nat) : missV ts js (runM ts js (poOf ts 1) n).en n = [] := by
  obtain ⟨P, w, S⟩ := sch_of hb
  refine miss_nil hv fun k hk => ?_
  exact not_late hv hk (fun t hl => edf_all hv S k t hl) (en_get (p := poOf ts 1) (n := n) hv hk)
end
end Go.Proofs.YtgponahmkjohiabGreatDoor

namespace Go.Proofs.YtgponahmkjohiabGreatDoor
open Go.RowKit
set_option linter.unusedVariables false
/-- Three numbers written one after another. -/
def put3 (w : World) (a : Addr) (x y z : Int) : World := ((w.setCell a (.int .i64 x)).setCell ⟨a.block, a.off + 1, none⟩ (.int .i64 y)).setCell ⟨a.block, a.off + 2, none⟩ (.int .i64 z)
/-- No result; the world is W. -/
def SwRes (W : World) (e : Ending) (w' : World) : Prop := e = .returned (.tuple #[]) ∧ w' = W
set_option maxRecDepth 100000 in
set_option maxHeartbeats 4000000 in
theorem swap_ne (w : World) (hb g o n c a b : Nat) (x0 x1 x2 y0 y1 y2 : Int) (h0 : w.cell? ⟨hb, 0, none⟩ = some (.slice (some ⟨g, o, none⟩) n c)) (hne : hb ≠ g) (hab : a ≠ b) (ha : a < n) (hbn : b < n)
    (a0 : w.cell? ⟨g, o + a * 3, none⟩ = some (.int .i64 x0)) (a1 : w.cell? ⟨g, o + a * 3 + 1, none⟩ = some (.int .i64 x1)) (a2 : w.cell? ⟨g, o + a * 3 + 2, none⟩ = some (.int .i64 x2))
    (b0 : w.cell? ⟨g, o + b * 3, none⟩ = some (.int .i64 y0)) (b1 : w.cell? ⟨g, o + b * 3 + 1, none⟩ = some (.int .i64 y1)) (b2 : w.cell? ⟨g, o + b * 3 + 2, none⟩ = some (.int .i64 y2))
    (fz : ∀ i, w.frozen? ⟨g, i, none⟩ = false) :
    Calls Tryz.prog 106 #[.pointer (some ⟨hb, 0, none⟩), .int .i64 a, .int .i64 b] w (SwRes ((put3 (put3 w ⟨g, o + a * 3, none⟩ y0 y1 y2) ⟨g, o + b * 3, none⟩ x0 x1 x2).drew)) := by
  have i1 : (0 : Int) ≤ (a : Int) := by omega
  have i2 : (a : Int) < (n : Int) := by omega
  have i3 : (0 : Int) ≤ (b : Int) := by omega
  have i4 : (b : Int) < (n : Int) := by omega
  generalize hW9 : (put3 (put3 w ⟨g, o + a * 3, none⟩ y0 y1 y2) ⟨g, o + b * 3, none⟩ x0 x1 x2).drew = W9
  have HW := Lib.hid hW9
  clear hW9
  go_enter Tryz.func106, Tryz.ntmps106
  go_wp2
  go_region
  all_goals
    go_end0
    exact ⟨rfl, HW.out⟩
set_option maxRecDepth 100000 in
set_option maxHeartbeats 4000000 in
theorem swap_eq (w : World) (hb g o n c a : Nat) (x0 x1 x2 : Int) (h0 : w.cell? ⟨hb, 0, none⟩ = some (.slice (some ⟨g, o, none⟩) n c)) (hne : hb ≠ g) (ha : a < n)
    (a0 : w.cell? ⟨g, o + a * 3, none⟩ = some (.int .i64 x0)) (a1 : w.cell? ⟨g, o + a * 3 + 1, none⟩ = some (.int .i64 x1)) (a2 : w.cell? ⟨g, o + a * 3 + 2, none⟩ = some (.int .i64 x2))
    (fz : ∀ i, w.frozen? ⟨g, i, none⟩ = false) :
    Calls Tryz.prog 106 #[.pointer (some ⟨hb, 0, none⟩), .int .i64 a, .int .i64 a] w (SwRes ((put3 (put3 w ⟨g, o + a * 3, none⟩ x0 x1 x2) ⟨g, o + a * 3, none⟩ x0 x1 x2).drew)) := by
  have i1 : (0 : Int) ≤ (a : Int) := by omega
  have i2 : (a : Int) < (n : Int) := by omega
  generalize hW9 : (put3 (put3 w ⟨g, o + a * 3, none⟩ x0 x1 x2) ⟨g, o + a * 3, none⟩ x0 x1 x2).drew = W9
  have HW := Lib.hid hW9
  clear hW9
  go_enter Tryz.func106, Tryz.ntmps106
  go_wp2
  go_region
  all_goals
    go_end0
    exact ⟨rfl, HW.out⟩
end Go.Proofs.YtgponahmkjohiabGreatDoor

namespace Go.Proofs.YtgponahmkjohiabGreatDoor
section
open Go.RowKit
set_option linter.unusedVariables false
theorem addr_add3 (b o j : Nat) : (⟨b, o, none⟩ : Addr).add j = ⟨b, o + j, none⟩ := by unfold Addr.add; split <;> simp_all
theorem OwnJ.some_ {w : World} {B : Nat} {v : Value} {js : List Jb} (h : OwnJ w B v js) (hn : 0 < js.length) : ∃ g c, v = .slice (some ⟨g, 0, none⟩) js.length c := by
  rcases h.2 with ⟨e, h0⟩ | ⟨g, cap, cur, e, _⟩
  · omega
  · exact ⟨g, cap, e⟩
end
section
open Go.RowKit
set_option linter.unusedVariables false
theorem gb_of_belowJ {a b : World} (h : Below a.heap.size a b) : a.grownBy b none := ⟨h.os, h.tape, h.output, h.size, fun k hk _ => h.block k hk⟩
theorem Rd.bel {w w' : World} {B g : Nat} {A : Option Addr} {n c : Nat} {f : Nat → Int} {p : Nat} (h : Rd w B g A n c f p) (hb : Below w.heap.size w w') : Rd w' B g A n c f p := h.grown (gb_of_belowJ hb) (fun k e => by cases e)
end
section
open Go.RowKit
set_option linter.unusedVariables false
theorem jset_cells (js : List Jb) : ∀ (k : Nat) (j : Jb) (z : Int), js[k]? = some j →
    (js.flatMap Jb.cells).set (k * 3 + 2) (.int .i64 z) = (js.set k ⟨j.ta, j.tm, z⟩).flatMap Jb.cells := by
  induction js with
  | nil => intro k j z h; simp at h
  | cons a js ih =>
    intro k j z h
    cases k with
    | zero => simp at h; subst h; simp [List.flatMap_cons, Jb.cells]
    | succ k =>
      have e0 : (k + 1) * 3 = k * 3 + 3 := by omega
      simp only [List.flatMap_cons, Jb.cells, List.set_cons_succ, e0, List.cons_append, List.nil_append, Nat.add_right_comm]
      rw [← ih k j z (by simpa using h)]
theorem OwnJ.put {w : World} {B h n c : Nat} {js : List Jb} (ho : OwnJ w B (.slice (some ⟨h, 0, none⟩) n c) js) (k : Nat) (j : Jb) (z : Int) (hk : js[k]? = some j) :
    OwnJ (w.setCell ⟨h, k * 3 + 2, none⟩ (.int .i64 z)) B (.slice (some ⟨h, 0, none⟩) n c) (js.set k ⟨j.ta, j.tm, z⟩) := by
  have hn := ho.reads.1
  subst hn
  have h1 := (World.ownsRow.stored ho (k * 3 + 2) (.int .i64 z)).1
  unfold OwnJ
  rw [List.length_set, ← jset_cells js k j z hk]
  exact h1
end
end Go.Proofs.YtgponahmkjohiabGreatDoor

namespace Go.Proofs.YtgponahmkjohiabGreatDoor
open Go.RowKit
set_option linter.unusedVariables false
instance instDecJb : DecidableEq Jb := fun a b => decidable_of_iff (a.ta = b.ta ∧ a.tm = b.tm ∧ a.ne = b.ne) ⟨fun h => Jb.eq_of h.1 h.2.1 h.2.2, fun h => by subst h; exact ⟨rfl, rfl, rfl⟩⟩
def leJ (a b : Jb) : Prop := befB b a = false
theorem leJ_refl (a : Jb) : leJ a a := bef_irr a
theorem leJ_iff {a b : Jb} : leJ a b ↔ a.tm < b.tm ∨ (a.tm = b.tm ∧ a.ta ≤ b.ta) := by
  unfold leJ
  rw [← Bool.not_eq_true, befB_iff]
  omega
theorem leJ_trans {a b c : Jb} (h1 : leJ a b) (h2 : leJ b c) : leJ a c := by
  rw [leJ_iff] at *; omega
theorem leJ_of_bef {a b : Jb} (h : befB a b = true) : leJ a b := bef_asym h
theorem bef_of_le {a b : Jb} (h : leJ a b) (hn : ¬ a.ta = b.ta) : befB a b = true := by
  rw [leJ_iff] at h
  rw [befB_iff]; omega
/-- Two elements exchanged. -/
def swapL (hs : List Jb) (a b : Nat) (x y : Jb) : List Jb := (hs.set a y).set b x
theorem swap_len (hs : List Jb) (a b : Nat) (x y : Jb) : (swapL hs a b x y).length = hs.length := by unfold swapL; simp
theorem swap_at {hs : List Jb} {a b : Nat} {x y : Jb} (ha : a < hs.length) (hb : b < hs.length) (hab : a ≠ b) (i : Nat) :
    (swapL hs a b x y)[i]? = if i = a then some y else if i = b then some x else hs[i]? := by
  unfold swapL
  rw [List.getElem?_set]
  by_cases h1 : b = i
  · subst h1
    rw [if_pos rfl, if_pos (by simpa using hb), if_neg (fun e => hab e.symm), if_pos rfl]
  · rw [if_neg h1, List.getElem?_set]
    by_cases h2 : a = i
    · subst h2
      rw [if_pos rfl, if_pos rfl, if_pos ha]
    · rw [if_neg h2, if_neg (fun e => h2 e.symm), if_neg (fun e => h1 e.symm)]
theorem swap_perm {hs : List Jb} {a b : Nat} {x y : Jb} (ha : hs[a]? = some x) (hb : hs[b]? = some y) : (swapL hs a b x y).Perm hs := by
  obtain ⟨hal, hax⟩ := List.getElem?_eq_some_iff.1 ha
  obtain ⟨hbl, hbx⟩ := List.getElem?_eq_some_iff.1 hb
  rw [List.perm_iff_count]
  intro z
  unfold swapL
  have hx : ∀ i (hi : i < hs.length), hs[i] = z → 0 < hs.count z := fun i hi e => List.count_pos_iff.2 (by rw [← e]; exact List.getElem_mem _)
  rw [List.count_set (by simpa using hbl), List.count_set hal]
  rw [List.getElem_set]
  by_cases hab : a = b
  · subst hab
    have : x = y := by rw [← hax, ← hbx]
    subst this
    simp [hax]
    by_cases hz : x = z
    · have := hx a hal (hax.trans hz); simp [hz]; omega
    · simp [hz]
  · simp only [hab, if_false, hax, hbx, beq_iff_eq]
    by_cases hzx : x = z
    · have h1 := hx a hal (hax.trans hzx)
      by_cases hzy : y = z
      · simp [hzx, hzy]; omega
      · simp [hzx, hzy]; omega
    · by_cases hzy : y = z
      · have h1 := hx b hbl (hbx.trans hzy)
        simp [hzx, hzy]
      · simp [hzx, hzy]
/-- No element goes before the one above it. -/
def heapP (hs : List Jb) : Prop := ∀ i x p, 0 < i → hs[i]? = some x → hs[(i - 1) / 2]? = some p → leJ p x
def UpInv (hs : List Jb) (k : Nat) (x : Jb) : Prop :=
  hs[k]? = some x ∧ (∀ i y p, 0 < i → i ≠ k → hs[i]? = some y → hs[(i - 1) / 2]? = some p → leJ p y) ∧
    (∀ c y p, 0 < c → (c - 1) / 2 = k → 0 < k → hs[c]? = some y → hs[(k - 1) / 2]? = some p → leJ p y)
theorem up_start {hs : List Jb} {x : Jb} (h : heapP hs) : UpInv (hs ++ [x]) hs.length x := by
  refine ⟨by simp, fun i y p hi hk hy hp => ?_, fun c y p hc hck hk hy hp => ?_⟩
  · have hil : i < hs.length := by
      have := (List.getElem?_eq_some_iff.1 hy).1
      simp at this; omega
    rw [List.getElem?_append_left hil] at hy
    rw [List.getElem?_append_left (by omega)] at hp
    exact h i y p hi hy hp
  · have := (List.getElem?_eq_some_iff.1 hy).1
    simp at this; omega
theorem up_done {hs : List Jb} {k : Nat} {x : Jb} (h : UpInv hs k x) (hd : k = 0 ∨ ∀ p, hs[(k - 1) / 2]? = some p → befB x p = false) : heapP hs := by
  intro i y p hi hy hp
  by_cases hk : i = k
  · subst hk
    rcases hd with hd | hd
    · omega
    · rw [h.1] at hy
      injection hy with hy
      subst hy
      exact hd p hp
  · exact h.2.1 i y p hi hk hy hp
theorem up_step {hs : List Jb} {k : Nat} {x p : Jb} (h : UpInv hs k x) (hk : 0 < k) (hp : hs[(k - 1) / 2]? = some p) (hb : befB x p = true) : UpInv (swapL hs k ((k - 1) / 2) x p) ((k - 1) / 2) x := by
  have hkl := (List.getElem?_eq_some_iff.1 h.1).1
  have hpl := (List.getElem?_eq_some_iff.1 hp).1
  have hne : k ≠ (k - 1) / 2 := by omega
  refine ⟨by rw [swap_at hkl hpl hne, if_neg (fun e => hne e.symm), if_pos rfl], fun i y q hi hik hy hq => ?_, fun c y q hc hck hk0 hy hq => ?_⟩
  · rw [swap_at hkl hpl hne] at hy hq
    rw [if_neg hik] at hy
    by_cases h1 : i = k
    · subst h1
      rw [if_pos rfl] at hy
      rw [if_neg (by omega), if_pos rfl] at hq
      injection hy with hy; injection hq with hq
      subst hy hq
      exact leJ_of_bef hb
    · rw [if_neg h1] at hy
      by_cases h2 : (i - 1) / 2 = k
      · rw [if_pos h2] at hq
        injection hq with hq
        subst hq
        exact h.2.2 i y p hi h2 hk hy hp
      · rw [if_neg h2] at hq
        by_cases h3 : (i - 1) / 2 = (k - 1) / 2
        · rw [if_pos h3] at hq
          injection hq with hq
          subst hq
          exact leJ_trans (leJ_of_bef hb) (h.2.1 i y p hi h1 hy (by rw [h3]; exact hp))
        · rw [if_neg h3] at hq
          exact h.2.1 i y q hi h1 hy hq
  · rw [swap_at hkl hpl hne] at hy hq
    rw [if_neg (by omega), if_neg (by omega)] at hq
    have hpq : leJ q p := h.2.1 ((k - 1) / 2) p q hk0 (by omega) hp hq
    by_cases h1 : c = k
    · subst h1
      rw [if_pos rfl] at hy
      injection hy with hy
      subst hy
      exact hpq
    · rw [if_neg h1, if_neg (by omega)] at hy
      exact leJ_trans hpq (h.2.1 c y p hc h1 hy (by rw [hck]; exact hp))
def DownInv (hs : List Jb) (k : Nat) : Prop :=
  (∀ i y p, 0 < i → (i - 1) / 2 ≠ k → hs[i]? = some y → hs[(i - 1) / 2]? = some p → leJ p y) ∧
    (∀ c y p, 0 < c → (c - 1) / 2 = k → 0 < k → hs[c]? = some y → hs[(k - 1) / 2]? = some p → leJ p y)
theorem down_done {hs : List Jb} {k : Nat} {x : Jb} (h : DownInv hs k) (hx : hs[k]? = some x) (h1 : ∀ y, hs[2 * k + 1]? = some y → leJ x y) (h2 : ∀ y, hs[2 * k + 2]? = some y → leJ x y) : heapP hs := by
  intro i y p hi hy hp
  by_cases hk : (i - 1) / 2 = k
  · rw [hk, hx] at hp
    injection hp with hp
    subst hp
    rcases (by omega : i = 2 * k + 1 ∨ i = 2 * k + 2) with e | e
    · exact h1 y (by rw [← e]; exact hy)
    · exact h2 y (by rw [← e]; exact hy)
  · exact h.1 i y p hi hk hy hp
theorem down_step {hs : List Jb} {k f : Nat} {x m : Jb} (h : DownInv hs k) (hx : hs[k]? = some x) (hf : f = 2 * k + 1 ∨ f = 2 * k + 2) (hm : hs[f]? = some m) (h0 : leJ m x) (h1 : ∀ y, hs[2 * k + 1]? = some y → leJ m y) (h2 : ∀ y, hs[2 * k + 2]? = some y → leJ m y) : DownInv (swapL hs k f x m) f := by
  have hkl := (List.getElem?_eq_some_iff.1 hx).1
  have hfl := (List.getElem?_eq_some_iff.1 hm).1
  have hne : k ≠ f := by omega
  refine ⟨fun i y p hi hik hy hp => ?_, fun c y p hc hck hf0 hy hp => ?_⟩
  · rw [swap_at hkl hfl hne] at hy hp
    rw [if_neg hik] at hp
    by_cases e1 : (i - 1) / 2 = k
    · rw [e1] at hp
      simp only [if_true] at hp
      injection hp with hp
      subst hp
      rw [if_neg (by omega)] at hy
      by_cases e2 : i = f
      · rw [if_pos e2] at hy
        injection hy with hy
        subst hy
        exact h0
      · rw [if_neg e2] at hy
        rcases (by omega : i = 2 * k + 1 ∨ i = 2 * k + 2) with e | e
        · exact h1 y (by rw [← e]; exact hy)
        · exact h2 y (by rw [← e]; exact hy)
    · rw [if_neg e1] at hp
      by_cases e2 : i = k
      · subst e2
        rw [if_pos rfl] at hy
        injection hy with hy
        subst hy
        exact h.2 f m p (by omega) (by omega) hi hm hp
      · rw [if_neg e2, if_neg (by omega)] at hy
        exact h.1 i y p hi e1 hy hp
  · rw [swap_at hkl hfl hne] at hy hp
    rw [if_neg (by omega), if_neg (by omega)] at hy
    rw [if_pos (by omega)] at hp
    injection hp with hp
    subst hp
    exact h.1 c y m hc (by omega) hy (by rw [hck]; exact hm)
theorem heap_min {hs : List Jb} {x : Jb} (h : heapP hs) (hx : hs[0]? = some x) : ∀ y ∈ hs, leJ x y := by
  have : ∀ (n i : Nat) (y : Jb), i ≤ n → hs[i]? = some y → leJ x y := by
    intro n
    induction n with
    | zero =>
      intro i y hi hy
      obtain rfl : i = 0 := by omega
      rw [hx] at hy
      injection hy with hy
      subst hy
      exact leJ_refl _
    | succ n ih =>
      intro i y hi hy
      by_cases h0 : i = 0
      · exact ih i y (by omega) hy
      · have hl := (List.getElem?_eq_some_iff.1 hy).1
        obtain ⟨p, hp⟩ : ∃ p, hs[(i - 1) / 2]? = some p := ⟨hs[(i - 1) / 2]'(by omega), List.getElem?_eq_getElem _⟩
        exact leJ_trans (ih ((i - 1) / 2) p (by omega) hp) (h i y p (by omega) hy hp)
  intro y hy
  obtain ⟨i, hi⟩ := List.getElem?_of_mem hy
  exact this i i y (Nat.le_refl _) hi
/-- The first one and the last one exchanged, the last one taken off: in order but for the first one. -/
theorem pop_start {hs : List Jb} {n : Nat} {x y : Jb} (h : heapP hs) (hn : hs.length = n + 1) (hx : hs[0]? = some x) (hy : hs[n]? = some y) : DownInv ((swapL hs 0 n x y).take n) 0 := by
  refine ⟨fun i z p hi hik hz hp => ?_, fun c z p hc hck hk => by omega⟩
  have hil : i < n := by
    have := (List.getElem?_eq_some_iff.1 hz).1
    rw [List.length_take] at this; omega
  rw [List.getElem?_take_of_lt hil] at hz
  rw [List.getElem?_take_of_lt (by omega)] at hp
  rw [swap_at (by omega) (by omega) (by omega)] at hz hp
  rw [if_neg (by omega), if_neg (by omega)] at hz hp
  exact h i z p hi hz hp
theorem take_swap_perm {hs : List Jb} {n : Nat} {x y : Jb} (hn : hs.length = n + 1) (hx : hs[0]? = some x) (hy : hs[n]? = some y) : (x :: (swapL hs 0 n x y).take n).Perm hs := by
  have h1 := swap_perm hx hy
  have h2 : swapL hs 0 n x y = (swapL hs 0 n x y).take n ++ [x] := by
    have hl : (swapL hs 0 n x y).length = n + 1 := by rw [swap_len, hn]
    have hlast : (swapL hs 0 n x y)[n]? = some x := by
      unfold swapL
      rw [List.getElem?_set, if_pos rfl, if_pos (by simp; omega)]
    have := List.take_add_one (l := swapL hs 0 n x y) (i := n)
    rw [hlast, List.take_of_length_le (by omega)] at this
    exact this
  rw [h2] at h1
  exact (List.perm_append_comm (l₁ := [x]) (l₂ := (swapL hs 0 n x y).take n)).trans h1
end Go.Proofs.YtgponahmkjohiabGreatDoor

namespace Go.Proofs.YtgponahmkjohiabGreatDoor
open Go.RowKit
set_option linter.unusedVariables false
theorem jown_block {w : World} {B g n N : Nat} {ts : List Jb} (h : OwnJ w B (.slice (some ⟨g, 0, none⟩) n N) ts) :
    n = ts.length ∧ B ≤ g ∧ ∃ cur, w.heap[g]? = some (.cells cur 46 (0, 0)) ∧ n ≤ N ∧ N ≤ maxLen ∧ cur.size = N * 3 ∧ cur.toList.take (n * 3) = ts.flatMap Jb.cells := by
  have hn := h.reads.1
  rcases h.2 with ⟨e, h0⟩ | ⟨g', cap, cur, e, hb, hg, h1, h2, h3, h4⟩
  · cases e
  · injection e with e1 e2 e3
    injection e1 with e1
    injection e1 with e1
    subst e1 e3
    exact ⟨hn, hb, cur, hg, by omega, h2, h3, by rw [hn]; exact h4⟩
theorem jown_of_block {w : World} {B g N : Nat} {ts : List Jb} {cur : Array Value} (hb : B ≤ g) (hg : w.heap[g]? = some (.cells cur 46 (0, 0))) (hn : ts.length ≤ N) (hN : N ≤ maxLen) (hs : cur.size = N * 3)
    (ht : cur.toList.take (ts.length * 3) = ts.flatMap Jb.cells) : OwnJ w B (.slice (some ⟨g, 0, none⟩) ts.length N) ts :=
  ⟨jcells_length ts, .inr ⟨g, N, cur, rfl, hb, hg, hn, hN, hs, ht⟩⟩
theorem jtake_cells (ts : List Jb) : ∀ i, (ts.flatMap Jb.cells).take (i * 3) = (ts.take i).flatMap Jb.cells := by
  induction ts with
  | nil => intro i; simp
  | cons t ts ih =>
    intro i
    cases i with
    | zero => simp
    | succ i =>
      have e : (i + 1) * 3 = t.cells.length + i * 3 := by simp [Jb.cells]; omega
      rw [List.flatMap_cons, e, List.take_append, List.take_succ_cons]
      simp [ih]
      exact List.take_of_length_le (by omega)
theorem OwnJ.drew {w : World} {B : Nat} {v : Value} {js : List Jb} (h : OwnJ w B v js) : OwnJ w.drew B v js := h.below (Below.drew (Below.refl _ _))
theorem OwnJ.drewN {w : World} {B : Nat} {v : Value} {js : List Jb} (h : OwnJ w B v js) (k : Nat) : OwnJ (w.drewN k) B v js := h.below (bl_drewN (Below.refl _ _) k)
theorem gb_drewJ {a b : World} {row : Option Nat} (h : a.grownBy b row) : a.grownBy b.drew row := ⟨h.os, h.tape, h.output, h.size, h.block⟩
theorem gb_belowJ {a w : World} (h : Below a.heap.size a w) (row : Option Nat) : a.grownBy w row := ⟨h.os, h.tape, h.output, h.size, fun i hi _ => h.block i hi⟩
end Go.Proofs.YtgponahmkjohiabGreatDoor

namespace Go.Proofs.YtgponahmkjohiabGreatDoor
open Go.RowKit
set_option linter.unusedVariables false
theorem OwnJ.setFar {w : World} {B : Nat} {v : Value} {ts : List Jb} (h : OwnJ w B v ts) {a : Addr} (ha : a.block < B) (u : Value) : OwnJ (w.setCell a u) B v ts :=
  ⟨h.1, by
    rcases h.2 with h2 | ⟨g, cap, cur, e, hb, hg, rest⟩
    · exact .inl h2
    · exact .inr ⟨g, cap, cur, e, hb, (Below.heap_setCell w a u g (by omega)).trans hg, rest⟩⟩
theorem jset3 : ∀ (ts : List Jb) (k : Nat) (j : Jb), k < ts.length → (((ts.flatMap Jb.cells).set (k * 3) (.int .i64 j.ta)).set (k * 3 + 1) (.int .i64 j.tm)).set (k * 3 + 2) (.int .i64 j.ne) = (ts.set k j).flatMap Jb.cells
  | [], k, j, h => by simp at h
  | t :: ts, 0, j, h => by simp [Jb.cells]
  | t :: ts, k + 1, j, h => by
    have ih := jset3 ts k j (by simpa using h)
    rw [List.set_cons_succ, List.flatMap_cons, List.flatMap_cons, ← ih]
    have e0 : (k + 1) * 3 = t.cells.length + k * 3 := by simp [Jb.cells]; omega
    rw [e0]
    simp only [Nat.add_assoc]
    rw [List.set_append_right _ _ (by omega), List.set_append_right _ _ (by omega), List.set_append_right _ _ (by omega)]
    simp
theorem OwnJ.put3 {w : World} {B g n c : Nat} {js : List Jb} (ho : OwnJ w B (.slice (some ⟨g, 0, none⟩) n c) js) (k : Nat) (j : Jb) (hk : k < js.length) :
    OwnJ (put3 w ⟨g, k * 3, none⟩ j.ta j.tm j.ne) B (.slice (some ⟨g, 0, none⟩) n c) (js.set k j) := by
  have hn := ho.reads.1
  subst hn
  have h1 := (World.ownsRow.stored ho (k * 3) (.int .i64 j.ta)).1
  have h2 := (World.ownsRow.stored h1 (k * 3 + 1) (.int .i64 j.tm)).1
  have h3 := (World.ownsRow.stored h2 (k * 3 + 2) (.int .i64 j.ne)).1
  rw [jset3 js k j hk] at h3
  unfold OwnJ
  rw [List.length_set]
  unfold Go.Proofs.YtgponahmkjohiabGreatDoor.put3
  simpa [addr_add3] using h3
theorem gb_put3 (w : World) (g o : Nat) (x y z : Int) : w.grownBy (put3 w ⟨g, o, none⟩ x y z) (some g) :=
  ⟨rfl, rfl, rfl, by simp [put3, World.setCell], fun k _ hne => by
    have hk : ∀ (W : World) (o : Nat) (u : Value), (W.setCell ⟨g, o, none⟩ u).heap[k]? = W.heap[k]? := fun W o u => Below.heap_setCell W ⟨g, o, none⟩ u k (fun e => hne (by rw [e]))
    unfold put3
    rw [hk, hk, hk]⟩
end Go.Proofs.YtgponahmkjohiabGreatDoor

namespace Go.Proofs.YtgponahmkjohiabGreatDoor
open Go.RowKit
set_option linter.unusedVariables false
/-- Block hb is a heap with the elements hs, which are the call's own (from block B on). -/
structure Hp (w : World) (B hb og : Nat) (hs : List Jb) (v : Value) : Prop where
  blk : Blk w hb 98 #[v, (.func (.func 55) #[ordV og] #[])]
  own : OwnJ w B v hs
  lt : hb < B
  ord : OrdAt w og
  ogB : og < B
  hog : og ≠ hb
theorem Hp.below {w w' : World} {B hb og : Nat} {hs : List Jb} {v : Value} (h : Hp w B hb og hs v) (hb' : Below w.heap.size w w') : Hp w' B hb og hs v :=
  ⟨h.blk.below hb' h.blk.lt, h.own.below hb', h.lt, h.ord.below hb', h.ogB, h.hog⟩
theorem OrdAt.grown {w w' : World} {g : Nat} {row : Option Nat} (h : OrdAt w g) (hg : w.grownBy w' row) (hr : some g ≠ row) : OrdAt w' g :=
  ⟨Nat.lt_of_lt_of_le h.lt hg.size, (hg.cell_far ⟨g, 0, none⟩ h.lt hr).trans h.c0, (hg.cell_far ⟨g, 1, none⟩ h.lt hr).trans h.c1⟩
theorem OrdAt.setFar {w : World} {g : Nat} (h : OrdAt w g) {a : Addr} (ha : g ≠ a.block) (u : Value) : OrdAt (w.setCell a u) g :=
  ⟨by simp [World.setCell]; exact h.lt, (World.cell?_of_block (Below.heap_setCell w a u g ha)).trans h.c0, (World.cell?_of_block (Below.heap_setCell w a u g ha)).trans h.c1⟩
set_option maxHeartbeats 1000000 in
theorem iSwap_is (w : World) (B hb og : Nat) (hs : List Jb) (v : Value) (h : Hp w B hb og hs v) (a b : Nat) (x y : Jb) (ha : hs[a]? = some x) (hb' : hs[b]? = some y) :
    Calls Tryz.prog 106 #[.pointer (some ⟨hb, 0, none⟩), .int .i64 a, .int .i64 b] w fun e w' => e = .returned (.tuple #[]) ∧ Hp w' B hb og (swapL hs a b x y) v ∧ w.grownBy w' v.ownBlock := by
  have hal := (List.getElem?_eq_some_iff.1 ha).1
  have hbl := (List.getElem?_eq_some_iff.1 hb').1
  obtain ⟨g, c, rfl⟩ := h.own.some_ (by omega)
  obtain ⟨hgB, hgl⟩ := World.ownsRow.lt h.own g rfl
  have hR := h.own.reads.2
  obtain ⟨_, A0, A1, A2⟩ := hR.get ha
  obtain ⟨_, B0, B1, B2⟩ := hR.get hb'
  have hne : hb ≠ g := by have := h.lt; omega
  have hcell := h.blk.cell 0
  obtain ⟨_, _, cur, hcur, _⟩ := jown_block h.own
  have hfz : ∀ i, w.frozen? ⟨g, i, none⟩ = false := fun i => Blk.frozen (w := w) (g := g) (cs := cur) hcur i
  have fin : ∀ W : World, W = (put3 (put3 w ⟨g, 0 + a * 3, none⟩ y.ta y.tm y.ne) ⟨g, 0 + b * 3, none⟩ x.ta x.tm x.ne).drew → Hp W B hb og (swapL hs a b x y) (.slice (some ⟨g, 0, none⟩) hs.length c) ∧ w.grownBy W (Value.slice (some ⟨g, 0, none⟩) hs.length c).ownBlock := by
    intro W hW
    subst hW
    rw [Nat.zero_add, Nat.zero_add]
    have g1 := gb_put3 w g (a * 3) y.ta y.tm y.ne
    have g2 := gb_trans g1 (gb_put3 (put3 w ⟨g, a * 3, none⟩ y.ta y.tm y.ne) g (b * 3) x.ta x.tm x.ne) (fun x e => .inl (by injection e with e; exact e.symm))
    have g3 := gb_drewJ g2
    have o2 := (h.own.put3 a y hal).put3 b x (by simpa using hbl)
    exact ⟨⟨h.blk.grown g3 (by intro e; injection e with e; exact hne e), OwnJ.drew o2, h.lt, h.ord.grown g3 (by intro e; injection e with e; have := h.ogB; omega), h.ogB, h.hog⟩, g3⟩
  by_cases hab : a = b
  · subst hab
    obtain rfl : x = y := by rw [ha] at hb'; injection hb'
    refine (swap_eq w hb g 0 hs.length c a x.ta x.tm x.ne hcell hne hal A0 A1 A2 hfz).mono ?_
    rintro e w' ⟨rfl, hw⟩
    exact ⟨rfl, fin w' hw⟩
  · refine (swap_ne w hb g 0 hs.length c a b x.ta x.tm x.ne y.ta y.tm y.ne hcell hne hab hal hbl A0 A1 A2 B0 B1 B2 hfz).mono ?_
    rintro e w' ⟨rfl, hw⟩
    exact ⟨rfl, fin w' hw⟩
end Go.Proofs.YtgponahmkjohiabGreatDoor
