import Derived.RegionTactic
import Derived.ChangeAlike
import Derived.Outline
import Derived.Laws.EntriesVeiled
import Derived.Test.YtgponahmkjohiabGreatDoorT1Pk27
namespace Go.Proofs.YtgponahmkjohiabGreatDoor
open Go.RowKit
set_option linter.unusedVariables false
theorem OwnJ.gr2 {w w' : World} {B hb : Nat} {v : Value} {js : List Jb} {row : Option Nat} (h : OwnJ w B v js) (hg : Gr2 w w' hb row) (h1 : hb < B) (h2 : ∀ k, v.ownBlock = some k → row ≠ some k) : OwnJ w' B v js :=
  ⟨h.1, by
    rcases h.2 with h3 | ⟨g, cap, cur, e, hb', hc, rest⟩
    · exact .inl h3
    · have hl : g < w.heap.size := (World.ownsRow.lt h g (by rw [e]; rfl)).2
      exact .inr ⟨g, cap, cur, e, hb', (hg.block g hl (by omega) (fun e2 => h2 g (by rw [e]; rfl) e2.symm)).trans hc, rest⟩⟩
theorem Hp.grown {w w' : World} {B hb og g n c : Nat} {hs : List Jb} {row : Option Nat} (h : Hp w B hb og hs (.slice (some ⟨g, 0, none⟩) n c)) (hg : w.grownBy w' row) (h1 : some hb ≠ row) (h2 : some og ≠ row) (h3 : some g ≠ row) : Hp w' B hb og hs (.slice (some ⟨g, 0, none⟩) n c) :=
  ⟨h.blk.grown hg h1, World.ownsRow.kept h.own hg (.inr (fun e => h3 (by rw [← e]; rfl))), h.lt, h.ord.grown hg h2, h.ogB, h.hog⟩
theorem OwnJ.blockLt {w : World} {B : Nat} {v : Value} {js : List Jb} (h : OwnJ w B v js) {k : Nat} (hk : v.ownBlock = some k) : B ≤ k ∧ k < w.heap.size := World.ownsRow.lt h k hk
theorem OwnJ.pos_form {w : World} {B : Nat} {v : Value} {js : List Jb} {n : Nat} (h : OwnJ w B v js) (hn : js.length = n + 1) : ∃ g c, v = .slice (some ⟨g, 0, none⟩) (n + 1) c := by
  obtain ⟨g, c, e⟩ := h.some_ (by omega)
  exact ⟨g, c, by rw [e, hn]⟩
def lenOf : Value → Nat
  | .slice _ n _ => n
  | _ => 0
set_option maxRecDepth 100000 in
set_option maxHeartbeats 8000000 in
theorem iWorst_no (w : World) (A : Option Addr) (n c : Nat) (ts : List Tk) (h : Tks w w.heap.size A n ts) (hn : n ≤ 1048576) (u : Int) (hi : Bool) (hno : (setB ts && (decide (0 ≤ u) && decide (u ≤ 200))) = false) :
    Calls Tryz.prog 17 #[.slice A n c, .int .i64 u, .bool hi] w (JsRes2 [] false w) := by
  have H := Lib.hid h
  clear h
  cases hs : setB ts
  · have HS := Lib.hid hs
    clear hs hno
    go_enter Tryz.func17, Tryz.ntmps17
    go_wp2_with fail
    refine (iSetValid_any _ A n c ts H.out hn).mono ?_
    rintro e w1 ⟨rfl, hb⟩
    rw [HS.out]
    go_wp2
    go_ret2
    exact ⟨none, 0, rfl, OwnJ.nil_ _ _, hb⟩
  have HS := Lib.hid hs
  rw [hs, Bool.true_and] at hno
  clear hs
  by_cases h0 : 0 ≤ u
  · have h1 : ¬ u ≤ 200 := fun h1 => by rw [decide_eq_true h0, decide_eq_true h1] at hno; cases hno
    have d0 : ¬ u < 0 := by omega
    have d1 : (200 : Int) < u := by omega
    clear hno
    go_enter Tryz.func17, Tryz.ntmps17
    go_wp2_with fail
    refine (iSetValid_any _ A n c ts H.out hn).mono ?_
    rintro e w1 ⟨rfl, hb⟩
    rw [HS.out]
    go_wp2
    go_ret2
    exact ⟨none, 0, rfl, OwnJ.nil_ _ _, hb⟩
  · have d0 : u < 0 := by omega
    clear hno
    go_enter Tryz.func17, Tryz.ntmps17
    go_wp2_with fail
    refine (iSetValid_any _ A n c ts H.out hn).mono ?_
    rintro e w1 ⟨rfl, hb⟩
    rw [HS.out]
    go_wp2
    go_ret2
    exact ⟨none, 0, rfl, OwnJ.nil_ _ _, hb⟩
set_option maxRecDepth 100000 in
set_option maxHeartbeats 8000000 in
theorem iWorst_yes (w : World) (A : Option Addr) (n c : Nat) (ts : List Tk) (h : Tks w w.heap.size A n ts) (u : Nat) (hu : u ≤ 200) (hi : Bool) (hset : setB ts = true) (b : Bool) (V : List Jb)
    (hV : (b, V) = if (worstL hi ts u).length ≤ 60 then (true, worstL hi ts u) else (false, [])) :
    Calls Tryz.prog 17 #[.slice A n c, .int .i64 u, .bool hi] w (JsRes2 V b w) := by
  obtain ⟨i0, hi0, hz0, hz1, hz2⟩ := info_parts info_job
  have hn5 : n ≤ 5 := by have := setB_len hset; rw [h.len] at this; exact this
  have hok : ∀ t ∈ ts, (1 ≤ t.ev ∧ t.ev ≤ 20) := fun t ht => by
    have h1 := hset
    unfold setB at h1
    simp at h1
    have hok := h1.2 t ht
    unfold Tk.ok validB at hok
    simp at hok
    omega
  have H := Lib.hid h
  have HL := Lib.hid h.len
  have HS := Lib.hid hset
  have HOK := Lib.hid hok
  have HV := Lib.hid hV
  have d0 : ¬ (u : Int) < 0 := by omega
  have d1 : ¬ (200 : Int) < (u : Int) := by omega
  have dd0 := decide_eq_false d0
  have dd1 := decide_eq_false d1
  clear h hset hok hV d0 d1
  go_enter Tryz.func17, Tryz.ntmps17
  go_wp2_with fail
  refine (iSetValid_any _ A n c ts H.out (by omega)).mono ?_
  rintro e w1 ⟨rfl, hb⟩
  rw [HS.out]
  have HB1 := Lib.hid hb
  clear hb
  go_wp2_with fail
  refine (iOrder_is _).mono ?_
  rintro e w2 ⟨og, rfl, hor, hge, hb⟩
  have HB2 := Lib.hid (show Below w.heap.size w w2 from bl_trans HB1.out hb)
  have HOR2 := Lib.hid hor
  clear hb hor hge
  go_wp2
  have HH3 : Hid (Hp (w2.alloc (.cells #[.slice none 0 0, (.func (.func 55) #[ordV og] #[])] 98)) (w2.heap.size + 1) w2.heap.size og [] (.slice none 0 0)) := Lib.hid ⟨Blk.new w2 98 _, OwnJ.nil_ _ _, Nat.lt_succ_self _, HOR2.out.alloc _, by have := HOR2.out.lt; omega, by have := HOR2.out.lt; omega⟩
  have HB3 := Lib.hid (show Below w.heap.size w (w2.alloc (.cells #[.slice none 0 0, (.func (.func 55) #[ordV og] #[])] 98)) from bl_alloc HB2.out _)
  have hbw : w.heap.size ≤ w2.heap.size := HB2.out.size
  have hs3 : w2.heap.size < (w2.alloc (.cells #[.slice none 0 0, (.func (.func 55) #[ordV og] #[])] 98)).heap.size := by simp
  clear HOR2 HB2 HB1
  generalize (w2.alloc (.cells #[.slice none 0 0, (.func (.func 55) #[ordV og] #[])] 98)) = w3 at *
  obtain ⟨hb, hhb⟩ : ∃ hb, w2.heap.size = hb := ⟨_, rfl⟩
  rw [hhb] at HH3 hbw hs3
  simp only [hhb]
  clear hhb
  go_loopw [29] (fun i wr => ∃ (k : Nat) (hs : List Jb) (v : Value), k ≤ n ∧ i = .int .i64 k ∧ Hid (Hp wr (hb + 1) hb og hs v) ∧ Hid (heapP hs) ∧ Hid (Nx ts hi k hs) ∧ Hid (∀ x ∈ hs, x.tm = 0) ∧ Hid (Below w.heap.size w wr)) (fun i _ => n - (intOf i).toNat)
  case atStart => exact ⟨0, [], _, Nat.zero_le _, rfl, HH3, Lib.hid (fun i x p _ hx => by simp at hx), Lib.hid (nx_nil _ _), Lib.hid (by simp), HB3⟩
  case round =>
    obtain ⟨k, hs, v, hk, rfl, HH, HP, HX, HZ, HB⟩ := hrel
    obtain ⟨w4, hw4⟩ : ∃ W, W = wr := ⟨_, rfl⟩
    subst hw4
    clear HH3 HB3
    have hl5 := nx_bound HX.out (by omega)
    have hbl : hb < w4.heap.size := HH.out.blk.lt
    by_cases hlt : k < n
    · have hlti : (k : Int) < (n : Int) := by omega
      obtain ⟨t, ht⟩ : ∃ t, ts[k]? = some t := ⟨ts[k]'(by rw [HL.out]; exact hlt), List.getElem?_eq_getElem _⟩
      obtain ⟨bt, ot, rfl, hbt, t0, t1, t2, t3, t4⟩ := (H.out.below HB.out).at_ k t ht
      have HT := Lib.hid ht
      clear ht
      obtain ⟨lo, hi', du, ev, cr⟩ := t
      dsimp only at t0 t1 t2 t3 t4
      have HB5 := Lib.hid (show Below w.heap.size w (w4.alloc (.cells #[.int .i64 lo, .int .i64 hi', .int .i64 du, .int .i64 ev, .bool cr] 43)) from bl_alloc HB.out _)
      have HH5 := Lib.hid (HH.out.below (w' := w4.alloc (.cells #[.int .i64 lo, .int .i64 hi', .int .i64 du, .int .i64 ev, .bool cr] 43)) (bl_alloc (Below.refl _ _) _))
      have BT5 := Lib.hid (Blk.new w4 43 #[.int .i64 lo, .int .i64 hi', .int .i64 du, .int .i64 ev, .bool cr])
      have cT := BT5.out.cell
      have hsz5 : w4.heap.size < (w4.alloc (.cells #[.int .i64 lo, .int .i64 hi', .int .i64 du, .int .i64 ev, .bool cr] 43)).heap.size := by simp
      obtain ⟨nd, hnd⟩ : ∃ nd, needOf hi ⟨lo, hi', du, ev, cr⟩ = nd := ⟨_, rfl⟩
      have HND := Lib.hid hnd
      have HC := Lib.hid (fun W : World => show Calls Tryz.prog 57 #[.agg #[.int .i64 lo, .int .i64 hi', .int .i64 du, .int .i64 ev, .bool cr], .bool hi] W fun e w' => e = .returned (.int .i64 nd) ∧ Below W.heap.size W w' from by rw [← hnd]; exact iNeedT_is W lo hi' du ev cr hi)
      clear hnd
      go_wp2_with fail
      refine (HC.out _).mono ?_
      rintro e w6 ⟨rfl, hb6⟩
      have HB6 := Lib.hid (bl_trans HB5.out hb6)
      have HH6 := Lib.hid (HH5.out.below hb6)
      have hs6 : hb + 1 ≤ w6.heap.size := by have := hb6.size; omega
      clear hb6 cT HH5 HB5 BT5
      go_wp2_with fail
      refine (iPush_is w6 (hb + 1) hb og hs v HH6.out hs6 HP.out (by omega) ⟨(k : Int), 0, nd⟩).mono ?_
      rintro e w7 ⟨rfl, g, cp, hs', hh7, hp7, hm7, hg7, hgr7⟩
      have HH7 := Lib.hid hh7
      have HP7 := Lib.hid hp7
      have HX7 := Lib.hid (nx_push (hs' := hs') HX.out HT.out (by rw [HND.out]; exact hm7))
      have HZ7 := Lib.hid (show ∀ x ∈ hs', x.tm = 0 from fun x hx => by
        rcases List.mem_append.1 (hm7.mem_iff.1 hx) with e | e
        · exact HZ.out x e
        · rw [List.mem_singleton.1 e])
      have HB7 := Lib.hid (hgr7.below HB6.out (by omega) hbw (fun x e => by have := (HH6.out.own.blockLt e).1; omega))
      clear hh7 hp7 hm7 hg7 hgr7
      go_wp2
      go_roundw
      case rel => exact ⟨k + 1, hs', _, by omega, by go_num, HH7, HP7, HX7, HZ7, HB7⟩
      case measure => simp [intOf]; omega
    · obtain rfl : k = n := by omega
      have HW := Lib.hid (wo_start (u := u) (by rw [HL.out]; exact HX.out) HZ.out)
      have HX := Lib.hid (show Nx ts hi ts.length hs by rw [HL.out]; exact HX.out)
      clear HZ
      go_wp2
      go_loopw [11] (fun s wr => ∃ (hs : List Jb) (v : Value) (out : List Jb), out.length ≤ 60 ∧ Hid (Hp wr (hb + 1) hb og hs v) ∧ Hid (heapP hs) ∧ Hid (Nx ts hi ts.length hs) ∧ Hid (Wo ts hi u hs out) ∧ Hid (OwnJ wr (hb + 1) s out) ∧ Hid (∀ x, s.ownBlock = some x → v.ownBlock ≠ some x) ∧ Hid (Below w.heap.size w wr)) (fun s _ => 61 - (lenOf s))
      case atStart => exact ⟨hs, v, [], Nat.zero_le _, HH, HP, HX, HW, Lib.hid (OwnJ.nil_ _ _), Lib.hid (fun x e => by cases e), HB⟩
      case round =>
        obtain ⟨hs, v, out, hol, HH, HP, HX, HW, HO, HA, HB⟩ := hrel
        obtain ⟨A2, c2, rfl⟩ := HO.out.form
        obtain ⟨w4, hw4⟩ : ∃ W, W = wr := ⟨_, rfl⟩
        subst hw4
        have hl5 := nx_bound HX.out (by have := HL.out; omega)
        have hbl : hb < w4.heap.size := HH.out.blk.lt
        have hsB : w.heap.size ≤ w4.heap.size := HB.out.size
        by_cases hm0 : hs.length = 0
        · obtain rfl := List.eq_nil_of_length_eq_zero hm0
          obtain ⟨A9, c9, rfl⟩ := HH.out.own.form
          have c0 := HH.out.blk.cell 0
          simp only [List.length_nil] at c0
          have HE := Lib.hid (wo_end HS.out hu HW.out (by simp))
          have hbV : b = true ∧ V = out := by
            have h1 := HV.out
            rw [← HE.out, if_pos hol] at h1
            injection h1 with h2 h3
            exact ⟨h2, h3⟩
          obtain ⟨rfl, rfl⟩ := hbV
          go_wp2
          go_ret2
          exact ⟨A2, c2, rfl, HO.out.less (by omega), HB.out⟩
        obtain ⟨m, hm⟩ : ∃ m, hs.length = m + 1 := ⟨hs.length - 1, by omega⟩
        obtain ⟨g, cap, rfl⟩ := HH.out.own.pos_form hm
        obtain ⟨j, hj⟩ : ∃ j, hs[0]? = some j := ⟨hs[0]'(by omega), List.getElem?_eq_getElem _⟩
        have hjm : j ∈ hs := List.mem_of_getElem? hj
        have HMIN := Lib.hid (heap_min HP.out hj)
        obtain ⟨i, t, hil, ht, hta, h0, h1, hd, hne⟩ := HX.out.is_ j hjm
        have HT := Lib.hid ht
        have hev := HOK.out t (List.mem_of_getElem? ht)
        obtain ⟨hgB, hgl⟩ := HH.out.own.blockLt (k := g) rfl
        have c0 := HH.out.blk.cell 0
        have m0 : (0 : Int) < (m : Int) + 1 := by omega
        have HM := Lib.hid hm
        have HJ := Lib.hid hj
        have HJM := Lib.hid hjm
        obtain ⟨ta, tm, ne⟩ := j
        dsimp only at hta h0 h1
        subst hta
        clear hm hj hjm ht hd hne hm0
        go_wp2_with fail
        refine (iPop_is w4 (hb + 1) hb og hs g cap m HM.out HH.out HP.out (by have := HM.out; omega) ⟨(i : Int), tm, ne⟩ HJ.out).mono ?_
        rintro e w5 ⟨rfl, hs1, hh5, hp5, hm5, hg5⟩
        have HH5 := Lib.hid hh5
        have HP5 := Lib.hid hp5
        have HM5 := Lib.hid hm5
        have HB5 := Lib.hid (hg5.below HB.out hsB hbw (fun x e => by injection e with e; omega))
        have HO5 := Lib.hid (HO.out.gr2 hg5 (by omega) (fun x e => HA.out x e))
        have hs5 : w4.heap.size ≤ w5.heap.size := hg5.size
        have hl1 : hs1.length + 1 = hs.length := by have := hm5.length_eq; simpa using this
        clear hh5 hp5 hm5 hg5 c0
        unfold Jb.val
        dsimp only
        have BJ6 := Lib.hid (Blk.new w5 46 #[.int .i64 (i : Int), .int .i64 tm, .int .i64 ne])
        have HB6 := Lib.hid (show Below w.heap.size w (w5.alloc (.cells #[.int .i64 (i : Int), .int .i64 tm, .int .i64 ne] 46)) from bl_alloc HB5.out _)
        have HH6 := Lib.hid (HH5.out.below (w' := w5.alloc (.cells #[.int .i64 (i : Int), .int .i64 tm, .int .i64 ne] 46)) (bl_alloc (Below.refl _ _) _))
        have HO6 := Lib.hid (HO5.out.alloc (.cells #[.int .i64 (i : Int), .int .i64 tm, .int .i64 ne] 46))
        have hs6 : (w5.alloc (.cells #[.int .i64 (i : Int), .int .i64 tm, .int .i64 ne] 46)).heap.size = w5.heap.size + 1 := by simp
        have q0 := BJ6.out.cell 0
        have q1 := BJ6.out.cell 1
        have q2 := BJ6.out.cell 2
        by_cases hlate : (u : Int) ≤ tm
        · have HE := Lib.hid (wo_end HS.out hu HW.out (wo_min HMIN.out hlate))
          have hbV : b = true ∧ V = out := by
            have h1 := HV.out
            rw [← HE.out, if_pos hol] at h1
            injection h1 with h2 h3
            exact ⟨h2, h3⟩
          obtain ⟨rfl, rfl⟩ := hbV
          go_wp2
          go_ret2
          exact ⟨A2, c2, rfl, HO6.out.less (by omega), HB6.out⟩
        have hlt : tm < (u : Int) := by omega
        by_cases h60 : out.length = 60
        · have HF := Lib.hid (wo_full HX.out HW.out HJM.out hlt)
          have hbV : b = false ∧ V = [] := by
            have h1 := HV.out
            rw [if_neg (by have := HF.out; omega)] at h1
            injection h1 with h2 h3
            exact ⟨h2, h3⟩
          obtain ⟨rfl, rfl⟩ := hbV
          have e60 : ((out.length : Int) == 60) = true := by simp; omega
          clear h60
          go_wp2
          go_ret2
          exact ⟨none, 0, rfl, OwnJ.nil_ _ _, HB6.out⟩
        have e60 : ((out.length : Int) == 60) = false := by simp; omega
        have hin : (i : Int) < (k : Int) := by have := HL.out; omega
        have hi0' : (0 : Int) ≤ (i : Int) := by omega
        have kw : IntKind.i64.wrap (tm + t.ev) = tm + t.ev := IntWalk.i64_in _ (by omega)
        have HOF := Lib.hid (show ∀ x, (Value.slice A2 out.length c2).ownBlock = some x → hb + 1 ≤ x ∧ x < w5.heap.size from fun x e => HO5.out.blockLt e)
        have hgl5 : g < w5.heap.size := by omega
        go_wp2_with (at_builtin; refine wpList_append_lies _ rfl (.tmp 53) (.tmp 55) 24 rfl (hb + 1) 46 i0 _ 3 24 Tryz.underlying24 hi0 hz0 hz1 hz2 rfl (by decide) (.slice A2 out.length c2) out.length (out.flatMap Jb.cells) rfl (HO6.out.alloc _) ⟨w5.heap.size + 1, 0, none⟩ 1 1 (Jb.cells ⟨(i : Int), tm, ne⟩) rfl rfl (by intro j u hu; have h0 := cell_new3 (w5.alloc (.cells #[.int .i64 (i : Int), .int .i64 tm, .int .i64 ne] 46)) ⟨(i : Int), tm, ne⟩ 46 j u hu; simpa using h0) (by intro u hu; exact jcells_one [⟨(i : Int), tm, ne⟩] u (by simpa using hu)) (by omega) (by unfold maxLen; omega) (by omega) (by simp; omega) (w5.heap.size + 1 + 1) (by simp) ?_; intro g2 cap2 w8 hown8 hgrow8 hat8 hlt8; have HO8 := Lib.hid hown8; have HG8 := Lib.hid hgrow8; have HAT8 := Lib.hid hat8; clear hown8 hgrow8 hat8 q0 q1 q2)
        have hown2 : (Value.slice A2 out.length c2).ownBlock ≠ some hb := fun e => by have := (HOF.out hb e).1; omega
        have hown3 : (Value.slice A2 out.length c2).ownBlock ≠ some g := fun e => HA.out g e rfl
        have hown4 : (Value.slice A2 out.length c2).ownBlock ≠ some og := fun e => by have h1 := (HOF.out og e).1; have h2 := HH5.out.ogB; omega
        have hown5 : (Value.slice A2 out.length c2).ownBlock ≠ some w5.heap.size := fun e => by have := (HOF.out w5.heap.size e).2; omega
        have HHa : Hid (Hp ((w5.alloc (.cells #[.int .i64 (i : Int), .int .i64 tm, .int .i64 ne] 46)).alloc (.cells #[.int .i64 (i : Int), .int .i64 tm, .int .i64 ne] 46)) (hb + 1) hb og hs1 (.slice (some ⟨g, 0, none⟩) hs1.length cap)) := Lib.hid (HH6.out.below (bl_alloc (Below.refl _ _) _))
        have HH8 : Hid (Hp w8 (hb + 1) hb og hs1 (.slice (some ⟨g, 0, none⟩) hs1.length cap)) := Lib.hid (HHa.out.grown HG8.out (fun e => hown2 e.symm) (fun e => hown4 e.symm) (fun e => hown3 e.symm))
        have BJ8 : Hid (Blk w8 w5.heap.size 46 #[.int .i64 (i : Int), .int .i64 tm, .int .i64 ne]) := Lib.hid ((BJ6.out.alloc _).grown HG8.out (fun e => hown5 e.symm))
        have HB8 := Lib.hid (show Below w.heap.size w w8 from (bl_alloc HB6.out _).grown HG8.out (by simp; omega) (fun x e => by have := (HOF.out x e).1; omega))
        have HOut8 : Hid (OwnJ w8 (hb + 1) (.slice (some ⟨g2, 0, none⟩) (out.length + 1) cap2) (out ++ [⟨(i : Int), tm, ne⟩])) := Lib.hid (OwnJ.snoc HO8.out)
        have hg2 : g2 ≠ g ∧ g2 ≠ w5.heap.size := by
          rcases HAT8.out with e | e
          · exact ⟨fun e2 => hown3 (by rw [e, e2]), fun e2 => hown5 (by rw [e, e2])⟩
          · omega
        have hg2B : hb + 1 ≤ g2 := (HOut8.out.blockLt (k := g2) rfl).1
        have hs8 : w5.heap.size < w8.heap.size := BJ8.out.lt
        have HG2 := Lib.hid hg2
        clear hown2 hown3 hown4 hown5 HHa HO8 HG8 BJ6 HB6 HH6 HO6 hs6 hg2
        obtain ⟨bt, ot, rfl, hbt, _, _, _, t3, _⟩ := (H.out.below HB8.out).at_ i t HT.out
        obtain ⟨lo, hi', du, ev, cr⟩ := t
        dsimp only at t3 hev kw
        have q0 := BJ8.out.cell 0
        have q1 := BJ8.out.cell 1
        have q2 := BJ8.out.cell 2
        have qf := BJ8.out.frozen 1
        have BJ9 : Hid (Blk ((w8.setCell ⟨w5.heap.size, 1, none⟩ (.int .i64 (tm + ev))).drew) w5.heap.size 46 #[.int .i64 (i : Int), .int .i64 (tm + ev), .int .i64 ne]) := Lib.hid (BJ8.out.set_ 1 (.int .i64 (tm + ev)))
        have HH9 : Hid (Hp ((w8.setCell ⟨w5.heap.size, 1, none⟩ (.int .i64 (tm + ev))).drew) (hb + 1) hb og hs1 (.slice (some ⟨g, 0, none⟩) hs1.length cap)) := Lib.hid (Hp.below (HH8.out.setApart (by dsimp only; omega) (by dsimp only; have h2 := HH8.out.ogB; omega) (by dsimp only; omega) _) (Below.drew (Below.refl _ _)))
        have HB9 : Hid (Below w.heap.size w ((w8.setCell ⟨w5.heap.size, 1, none⟩ (.int .i64 (tm + ev))).drew)) := Lib.hid (Below.drew (bl_set HB8.out (by dsimp only; omega) _))
        have HOut9 : Hid (OwnJ ((w8.setCell ⟨w5.heap.size, 1, none⟩ (.int .i64 (tm + ev))).drew) (hb + 1) (.slice (some ⟨g2, 0, none⟩) (out.length + 1) cap2) (out ++ [⟨(i : Int), tm, ne⟩])) := Lib.hid (OwnJ.drew (HOut8.out.setApart (by dsimp only; exact HG2.out.2) _))
        have hs9 : hb + 1 ≤ ((w8.setCell ⟨w5.heap.size, 1, none⟩ (.int .i64 (tm + ev))).drew).heap.size := by simp [World.setCell]; omega
        go_region
        all_goals
          generalize ((w8.setCell ⟨w5.heap.size, 1, none⟩ (.int .i64 (tm + ev))).drew) = w9 at *
          clear q0 q1 q2 qf t3
          have q0 := BJ9.out.cell 0
          have q1 := BJ9.out.cell 1
          have q2 := BJ9.out.cell 2
          have hg9 : g2 < w9.heap.size := (HOut9.out.blockLt (k := g2) rfl).2
          go_wp2_with fail
          refine (iPush_is w9 (hb + 1) hb og hs1 (.slice (some ⟨g, 0, none⟩) hs1.length cap) HH9.out hs9 HP5.out (by omega) ⟨(i : Int), tm + ev, ne⟩).mono ?_
          rintro e w10 ⟨rfl, g3, c3, hs2, hh, hp, hm, hat, hgr⟩
          have HH10 := Lib.hid hh
          have HP10 := Lib.hid hp
          have HST := Lib.hid (wo_step hu HOK.out HX.out HW.out HM5.out HMIN.out HT.out rfl hlt hm)
          have HB10 := Lib.hid (hgr.below HB9.out HB9.out.size hbw (fun x e => by have e2 : some g = some x := e; injection e2 with e2; omega))
          have HO10 := Lib.hid (HOut9.out.gr2 hgr (by omega) (fun x e => by
            have e2 : some g2 = some x := e
            injection e2 with e2
            intro e3
            have e4 : some g = some x := e3
            injection e4 with e4
            exact HG2.out.1 (by omega)))
          have HA10 : Hid (∀ x, (Value.slice (some ⟨g2, 0, none⟩) (out.length + 1) cap2).ownBlock = some x → (Value.slice (some ⟨g3, 0, none⟩) hs2.length c3).ownBlock ≠ some x) := Lib.hid (fun x e e3 => by
            have e2 : some g2 = some x := e
            injection e2 with e2
            have e4 : some g3 = some x := e3
            injection e4 with e4
            rcases hat with e5 | e5
            · have e6 : some g = some g3 := e5
              injection e6 with e6
              exact HG2.out.1 (by omega)
            · omega)
          clear hh hp hm hat hgr q0 q1 q2
          go_wp2
          go_roundw
          case rel => exact ⟨hs2, _, out ++ [⟨(i : Int), tm, ne⟩], by simp; omega, HH10, HP10, Lib.hid HST.out.1, Lib.hid HST.out.2, HO10, HA10, HB10⟩
          case measure => simp [lenOf]; omega
theorem iWorst_is (w : World) (A : Option Addr) (n c : Nat) (ts : List Tk) (h : Tks w w.heap.size A n ts) (hn : n ≤ 1048576) (u : Int) (hi b : Bool) (hb : worstB ts u hi = b) :
    Calls Tryz.prog 17 #[.slice A n c, .int .i64 u, .bool hi] w (JsRes2 (worstV ts u hi) b w) := by
  cases hno : setB ts && (decide (0 ≤ u) && decide (u ≤ 200))
  · have h1 : worstB ts u hi = false := by
      unfold worstB
      rw [← Bool.and_assoc (decide (0 ≤ u)), ← Bool.and_assoc (setB ts), hno, Bool.false_and]
    have h2 : worstV ts u hi = [] := by unfold worstV; rw [h1]; rfl
    obtain rfl : false = b := by rw [← hb, h1]
    rw [h2]
    exact iWorst_no w A n c ts h hn u hi hno
  · rw [Bool.and_eq_true, Bool.and_eq_true, decide_eq_true_iff, decide_eq_true_iff] at hno
    obtain ⟨hs, h0, h1⟩ := hno
    obtain ⟨k, rfl⟩ : ∃ k : Nat, u = (k : Int) := ⟨u.toNat, by omega⟩
    refine iWorst_yes w A n c ts h k (by omega) hi hs b _ ?_
    have h3 : worstB ts (k : Int) hi = decide ((worstL hi ts k).length ≤ 60) := by
      unfold worstB
      rw [hs, decide_eq_true h0, decide_eq_true h1, Int.toNat_natCast]
      rfl
    unfold worstV
    rw [Int.toNat_natCast, ← hb, h3]
    by_cases h4 : (worstL hi ts k).length ≤ 60
    · rw [decide_eq_true h4, if_pos h4]; rfl
    · rw [decide_eq_false h4, if_neg h4]; rfl
end Go.Proofs.YtgponahmkjohiabGreatDoor

namespace Go.Proofs.YtgponahmkjohiabGreatDoor
open Go.RowKit
set_option linter.unusedVariables false
theorem no_jobs {ts : List Tk} (h : setB ts = true) : jobsB ts [] = true := by
  unfold jobsB
  rw [h]
  simp [pairB]
theorem hBy_polB {ts : List Tk} {z : Int} (h : hBy ts z = true) : polB ts z = true := by
  rcases hBy_pol h with rfl | rfl
  · rfl
  · rw [hBy_due] at h
    have hf : facB ts = true := by { unfold virtV at h; simp at h; exact h.1 }
    unfold polB; rw [if_neg (by decide), hf]; rfl
theorem hBy_safe {ts : List Tk} {z : Int} {js : List Jb} (h : hBy ts z = true) (hv : jobsB ts js = true) (n : Nat) : missV ts js (runM ts js (poOf ts z) n).en n = [] := by
  rcases hBy_pol h with rfl | rfl
  · exact place_safe (p := poOf ts 0) hv rfl (by rwa [hBy_place] at h) n
  · exact due_safe hv (by rwa [hBy_due] at h) n
set_option maxRecDepth 100000 in
set_option maxHeartbeats 8000000 in
theorem fnHoldsSafe_walk (w : World) (A : Option Addr) (n c : Nat) (f : Nat → Int) (h : Code w w.heap.size A n c f) (e0 : Addr) (he : EG w e0) :
    Calls Tryz.prog 10 #[.slice A n c] w fun e w' => e = .returned (.bool true) ∧ Below w.heap.size w w' := by
  have H := Lib.hid h
  have HE := Lib.hid he
  have hle := h.le
  have hmax := h.max
  unfold maxLen at hmax
  clear h he
  by_cases hn : 1048576 < n
  · go_enter Tryz.func10, Tryz.ntmps10
    go_wp2
    go_ret
    exact ⟨rfl, Below.refl _ _⟩
  go_enter Tryz.func10, Tryz.ntmps10
  go_wp2_with fail
  refine (dDrawHoldsBy_any _ A n c f H.out).mono ?_
  rintro e w1 ⟨A1, c1, ts, z, rfl, hl, hzz, ho, hb⟩
  have HB1 := Lib.hid hb
  have HT1 := Lib.hid ho.reads.2
  have hct := own_le ho
  have hs1 := hb.size
  clear hb ho H
  obtain ⟨r, hr⟩ : ∃ r, hBy ts z = r := ⟨_, rfl⟩
  have HR := Lib.hid hr
  clear hr
  go_wp2_with fail
  refine (iHoldsBy_is w1 A1 _ c1 ts z HT1.out (by omega) hct e0 (HE.out.below HB1.out) r HR.out).mono ?_
  rintro e w2 ⟨rfl, hb⟩
  have hs2 := hb.size
  have HD2 := Lib.hid hb
  clear hb
  go_wp2_with fail
  refine (sHoldsBy_is w2 A1 _ c1 ts z ((HT1.out.below HD2.out).more HD2.out.size) (by omega) r HR.out).mono ?_
  rintro e w3 ⟨rfl, hb⟩
  have hs3 := hb.size
  have HD3 := Lib.hid (show Below w1.heap.size w1 w3 from bl_trans HD2.out hb)
  have HB3 := Lib.hid (bl_trans HB1.out HD3.out)
  clear hb
  cases r
  · go_wp2_with fail
    refine (sHoldsBy_is w3 A1 _ c1 ts z ((HT1.out.below HD3.out).more HD3.out.size) (by omega) false HR.out).mono ?_
    rintro e w4 ⟨rfl, hb⟩
    have HB4 := Lib.hid (bl_trans HB3.out hb)
    clear hb
    go_wp2
    go_ret
    exact ⟨rfl, HB4.out⟩
  obtain ⟨bw, hbw⟩ : ∃ b, worstB ts 20 true = b := ⟨_, rfl⟩
  have HTK3 := Lib.hid ((HT1.out.below HD3.out).more HD3.out.size)
  have HW3 := Lib.hid (iWorst_is w3 A1 ts.length c1 ts HTK3.out (by omega) 20 true bw hbw)
  obtain ⟨ws, hws⟩ : ∃ ws, worstV ts 20 true = ws := ⟨_, rfl⟩
  have hset := hBy_set HR.out
  have hjw : jobsB ts ws = true := by
    rw [← hws]
    unfold worstV
    cases bw
    · rw [hbw]; exact no_jobs hset
    · rw [hbw, if_pos rfl]; exact worst_jobs hbw
  have hwl : ws.length ≤ 60 := (wrsB_iff.1 (jobs_wrs hjw)).1
  obtain ⟨U, hU⟩ : ∃ U : Nat, U = 40 := ⟨_, rfl⟩
  have hU40 : ((U : Nat) : Int) = 40 := by omega
  have HSAFE := Lib.hid (hBy_safe HR.out hjw U)
  rw [hws] at HW3
  have HJW := Lib.hid hjw
  have HPOL := Lib.hid (hBy_polB HR.out)
  clear hws hbw hjw hset
  go_wp2_with fail
  refine HW3.out.mono ?_
  clear HW3
  rintro e w9 ⟨A9, c9, rfl, o9, hb⟩
  have hs9 := hb.size
  have HB9 := Lib.hid (bl_trans HB3.out hb)
  have HJ9 := Lib.hid o9.reads.2
  have HTK9 := Lib.hid ((HTK3.out.below hb).more hb.size)
  have HEG9 := Lib.hid (HE.out.below HB9.out)
  have hok8 : okR ts ws z ((U : Nat) : Int) = true := okR_iff.2 ⟨HJW.out, HPOL.out, by omega, by omega⟩
  have HT2 := Lib.hid (tr_len (p := poOf ts z) HJW.out U)
  clear hb o9
  have HR8 := Lib.hid (iRunJobs_is w9 A1 ts.length c1 ts HTK9.out (by omega) A9 ws.length c9 ws HJ9.out z (U : Nat) e0 HEG9.out)
  rw [hok8, runR_ok hok8, Int.toNat_natCast] at HR8
  obtain ⟨s8, hs8⟩ : ∃ s, runM ts ws (poOf ts z) U = s := ⟨_, rfl⟩
  rw [hs8] at HR8
  have HRUN8 := Lib.hid hs8
  clear hs8 hok8
  rw [hU40] at HR8
  go_wp2_with fail
  refine HR8.out.mono ?_
  clear HR8
  obtain ⟨en8, tr8, sw8, hi8, wk8, nx8⟩ := s8
  rintro e v8 ⟨D1, g1, D2, g2, D3, g3, rfl, o1, o2, o3, _, _, _, hb⟩
  dsimp only at o1 o2 o3 ⊢
  have HBr8 := Lib.hid hb
  have hz80 := hb.size
  have HEr8 := Lib.hid o1
  have HTr8 := Lib.hid o2
  have HSr8 := Lib.hid o3
  clear hb o1 o2 o3
  obtain ⟨wz8, hwz8⟩ : ∃ wz, v8.alloc (.cells #[.slice none 0 0, .slice none 0 0, .slice none 0 0, .bool false] 29) = wz := ⟨_, rfl⟩
  have hz8 : Blk wz8 v8.heap.size 29 #[.slice none 0 0, .slice none 0 0, .slice none 0 0, .bool false] := hwz8 ▸ Blk.new v8 _ _
  have bz8 : Below v8.heap.size v8 wz8 := hwz8 ▸ bl_alloc (Below.refl _ _) _
  obtain ⟨za8, zb8, zc8, zd8⟩ := Blk.quad hz8
  have zf8 := hz8.frozen
  obtain ⟨u8, hwn8⟩ : ∃ wn, (((wz8.setCell ⟨v8.heap.size, 0, none⟩ (.slice D1 en8.length g1)).setCell ⟨v8.heap.size, 1, none⟩ (.slice D2 tr8.length g2)).setCell ⟨v8.heap.size, 2, none⟩ (.slice D3 sw8.length g3)).setCell ⟨v8.heap.size, 3, none⟩ (.bool hi8) = wn := ⟨_, rfl⟩
  have hX8 : Blk u8 v8.heap.size 29 #[(.slice D1 en8.length g1), (.slice D2 tr8.length g2), (.slice D3 sw8.length g3), (.bool hi8)] := by
    rw [← hwn8]
    have h := (((hz8.set_ 0 ((.slice D1 en8.length g1))).set_ 1 ((.slice D2 tr8.length g2))).set_ 2 ((.slice D3 sw8.length g3))).set_ 3 ((.bool hi8))
    simpa using h
  have hY8 : Below v8.heap.size v8 u8 := by
    rw [← hwn8]
    exact (((bl_set bz8 (by dsimp only; omega) _).setCell (by dsimp only; omega) _).setCell (by dsimp only; omega) _).setCell (by dsimp only; omega) _
  have HX8 := Lib.hid hX8
  have HD8x : Hid (Below w9.heap.size w9 u8) := Lib.hid (bl_trans HBr8.out hY8)
  have HE8 := Lib.hid (HEr8.out.below hY8)
  have HTR8 := Lib.hid (HTr8.out.below hY8)
  have HSW8 := Lib.hid (HSr8.out.below hY8)
  clear hX8 hY8 hz8 bz8 HEr8 HTr8 HSr8 HBr8
  obtain ⟨y0, y1, y2, y3⟩ := Blk.quad HX8.out
  rw [HRUN8.out] at HSAFE HT2
  dsimp only at HSAFE HT2
  obtain ⟨us, hus⟩ : ∃ us, missV ts ws en8 tr8.length = us := ⟨_, rfl⟩
  have HUS := Lib.hid hus
  obtain rfl : us = [] := by
    rw [← hus, HT2.out]
    exact HSAFE.out
  have HJ8 := Lib.hid ((HJ9.out.below HD8x.out).more HD8x.out.size)
  clear hus hU hU40
  cases bw
  · have HB9 := Lib.hid (bl_trans HB9.out HD8x.out)
    go_wp2
    go_ret
    exact ⟨rfl, HB9.out⟩
  · go_wp2_with fail
    refine (iMiss_is _ A1 ts.length c1 ts ((HTK9.out.below HD8x.out).more HD8x.out.size) (by omega) A9 ws.length c9 ws HJ8.out D1 en8.length g1 D2 tr8.length g2 D3 sw8.length g3 hi8 en8 HE8.out.reads [] HUS.out).mono ?_
    rintro e w12 ⟨A12, c12, rfl, _, hb⟩
    have HB9 := Lib.hid (bl_trans HB9.out (bl_trans HD8x.out hb))
    clear hb y0 y1 y2 y3
    go_wp2
    go_ret
    exact ⟨rfl, HB9.out⟩
end Go.Proofs.YtgponahmkjohiabGreatDoor
