import Derived.RegionTactic
import Derived.ChangeAlike
import Derived.Test.YtgponahmkjohiabGreatDoorT1Pk6
namespace Go.Proofs.YtgponahmkjohiabGreatDoor
open Go.RowKit
set_option linter.unusedVariables false
set_option maxRecDepth 100000 in
set_option maxHeartbeats 4000000 in
theorem iTaskOf_is (w : World) (B M : Nat) (p : Pm) (A : Option Addr) (n c : Nat) (ts : List Tk) (Aj : Option Addr) (nj cj : Nat) (js : List Jb) (hB : B ≤ w.heap.size) (hT : Tks w B A n ts) (hJ : Jbs w B Aj nj js) (hp : PAt w M p) (hL : p.L = .slice A n c) (hJv : p.J = .slice Aj nj cj) (hv : jobsB ts js = true) (k : Nat) (hk : k < js.length) :
    Calls Tryz.prog 140 #[.pointer (some ⟨M, 0, none⟩), .int .i64 (k : Int)] w fun e w' => e = .returned (tkV (tkJ ts js k)) ∧ Below w.heap.size w w' := by
  obtain ⟨j1, j2, j3, j4, j5, j6, j7, j8⟩ := job_ok hv hk
  obtain ⟨bj, oj, rfl, hbj, hja⟩ := hJ.at_ k _ (job_get hk)
  obtain ⟨q, hq⟩ := Int.eq_ofNat_of_zero_le j4
  have hql : q < ts.length := by omega
  obtain ⟨t, ht⟩ : ∃ t, ts[q]? = some t := ⟨ts[q], List.getElem?_eq_getElem _⟩
  have etk : tkJ ts js k = t := by unfold tkJ; rw [hq]; exact tkOf_get ht
  obtain ⟨bt, ot, rfl, hbt, hta⟩ := hT.at_ q t ht
  have hkn : k < nj := by have := hJ.len; omega
  have hqn : q < n := by have := hT.len; omega
  obtain ⟨lo, hh, du, ev, cr⟩ := t
  obtain ⟨W1, hW1⟩ : ∃ W1, w.alloc (.cells #[.int .i64 0, .int .i64 0, .int .i64 0, .int .i64 0, .bool false] 43) = W1 := ⟨_, rfl⟩
  have hb1 : Below w.heap.size w W1 := hW1 ▸ bl_alloc (Below.refl _ _) _
  have hN : Blk W1 w.heap.size 43 #[.int .i64 0, .int .i64 0, .int .i64 0, .int .i64 0, .bool false] := hW1 ▸ Blk.new w _ _
  have hp1 := hp.bel hb1
  have c0 : W1.cell? ⟨M, 0, none⟩ = some (.slice (some ⟨bt, ot, none⟩) n c) := by rw [hp1.c0, hL]
  have c1 : W1.cell? ⟨M, 1, none⟩ = some (.slice (some ⟨bj, oj, none⟩) nj cj) := by rw [hp1.c1, hJv]
  have hja1 := hja.keep (w' := W1) (fun i => hb1.cell (p := ⟨bj, i, none⟩) (by dsimp only; omega))
  have hta1 := hta.keep (w' := W1) (fun i => hb1.cell (p := ⟨bt, i, none⟩) (by dsimp only; omega))
  have d0 := hja1.c0
  rw [hq] at d0
  obtain ⟨t0, t1, t2, t3, t4⟩ := hta1
  dsimp only at t0 t1 t2 t3 t4
  have fN := hN.frozen
  obtain ⟨n0, n1, n2, n3, n4⟩ := hN.five
  have HZ := Lib.hid (hN.fill5 (v0 := .int .i64 lo) (v1 := .int .i64 hh) (v2 := .int .i64 du) (v3 := .int .i64 ev) (v4 := .bool cr))
  have HBZ : Hid (Below w.heap.size w (fill5 W1 w.heap.size (.int .i64 lo) (.int .i64 hh) (.int .i64 du) (.int .i64 ev) (.bool cr))) := Lib.hid (((((bl_set hb1 (by dsimp only; omega) _).setCell (by dsimp only; omega) _).setCell (by dsimp only; omega) _).setCell (by dsimp only; omega) _).setCell (by dsimp only; omega) _)
  unfold fill5 at HZ HBZ
  have k0 : (0 : Int) ≤ (k : Int) := by omega
  have k1 : (k : Int) < (nj : Int) := by omega
  have q0 : (0 : Int) ≤ (q : Int) := by omega
  have q1 : (q : Int) < (n : Int) := by omega
  rw [etk]
  clear hp hp1 hT hJ hL hJv hja hja1 hta hN hb1 ht hv etk hq j1 j2 j3 j4 j5 j6 j7 j8
  go_enter Tryz.func140, Tryz.ntmps140
  go_wp2
  go_region
  all_goals (
    obtain ⟨z0, z1, z2, z3, z4⟩ := HZ.out.five
    go_wp2
    refine bodyPost_ret (v := tkV ⟨lo, hh, du, ev, cr⟩) (by simp [results, Tryz.results140, go_sem, z0, z1, z2, z3, z4, tkV]) rfl ⟨rfl, (by repeat (first | exact HBZ.out | refine bl_drewN ?_ _ | refine Below.drew ?_))⟩)
set_option maxHeartbeats 4000000 in
theorem iPlAdd_is (w : World) (M : Nat) (p : Pm) (hp : PAt w M p) (k : Nat) (hc : p.cn < 60) :
    Calls Tryz.prog 135 #[.pointer (some ⟨M, 5, none⟩), .int .i64 (k : Int)] w fun e w' => e = .returned (.tuple #[]) ∧ PAt w' M { p with lf := p.lf.set p.cn (k : Int), cn := p.cn + 1 } ∧ Kp w w' (fun x => x = M) := by
  have c65 := hp.c65
  have e5 := hp.left hc
  have f0 := hp.frozen
  have h1 := hp.sLf hc (k : Int)
  have h2 := h1.sCn (p.cn + 1)
  have e65 := h1.c65
  dsimp only at h1 h2 e65
  have q0 : (0 : Int) ≤ (p.cn : Int) := by omega
  have q1 : (p.cn : Int) < 60 := by omega
  have q2 : (((p.cn + 1 : Nat) : Int)) = (p.cn : Int) + 1 := by omega
  rw [q2] at h2
  have HX := Lib.hid h2
  have HK : Hid (Kp w ((w.setCell ⟨M, 5 + p.cn, none⟩ (.int .i64 (k : Int))).setCell ⟨M, 65, none⟩ (.int .i64 ((p.cn : Int) + 1))) (fun x => x = M)) := Lib.hid (Kp.set (S := fun x => x = M) (Kp.set (S := fun x => x = M) (Kp.refl w _) (a := ⟨M, 5 + p.cn, none⟩) (.inl rfl) _) (a := ⟨M, 65, none⟩) (.inl rfl) _)
  clear hp h1 h2 q2
  go_enter Tryz.func135, Tryz.ntmps135
  go_wp2
  go_region
  all_goals (
    go_wp2
    go_end0
    exact ⟨rfl, HX.out.drew, HK.out.drew⟩)
theorem fol1_is (w : World) (R : Nat) (k z : Nat) (hR : Blk w R 3 #[.int .i64 (z : Int)]) (b : Bool) (hb : (!decide ((k : Int) = (z : Int))) = b) :
    Calls Tryz.prog 139 #[.int .i64 (k : Int), .pointer (some ⟨R, 0, none⟩)] w (BRes b w) := by
  have c0 := hR.cell 0
  clear hR
  have c0' : w.cell? ⟨R, 0, none⟩ = some (.int .i64 (z : Int)) := c0
  clear c0
  by_cases hk : (k : Int) = (z : Int)
  · obtain rfl : b = false := by rw [← hb, decide_eq_true hk]; rfl
    have t1 : ((k : Int) != (z : Int)) = false := by rw [hk]; simp
    have t2 : k = z := by omega
    subst t2
    clear hk hb
    go_enter Tryz.func139, Tryz.ntmps139
    go_wp2
    go_ret
    exact ⟨rfl, Below.refl _ _⟩
  · obtain rfl : b = true := by rw [← hb, decide_eq_false hk]; rfl
    have t1 : ((k : Int) != (z : Int)) = true := by simp only [bne_iff_ne]; exact hk
    have t2 : ¬ k = z := by omega
    have HH := Lib.hid hk
    clear hk hb
    go_enter Tryz.func139, Tryz.ntmps139
    go_wp2
    go_ret
    exact ⟨rfl, Below.refl _ _⟩
end Go.Proofs.YtgponahmkjohiabGreatDoor

namespace Go.Proofs.YtgponahmkjohiabGreatDoor
open Go.RowKit
set_option linter.unusedVariables false
def addM (js : List Jb) (now : Int) : Nat → Mc → Mc
  | 0, s => s
  | f + 1, s => if (jobOf js s.nx).tm = now then addM js now f { s with wk := s.wk ++ [(s.nx, 0)], nx := s.nx + 1 } else s
def dropM (ts : List Tk) (js : List Jb) (s : Mc) : Mc := if s.hi then { s with en := dropE ts js s.en s.wk, wk := s.wk.filter (fun p => (tkJ ts js p.1).cr) } else s
section
variable {ts : List Tk} {js : List Jb} {now : Int}
theorem dropE_snoc (en : List Int) (wk : List (Nat × Int)) (q : Nat × Int) : dropE ts js en (wk ++ [q]) = if (tkJ ts js q.1).cr then dropE ts js en wk else (dropE ts js en wk).set q.1 (-2) := by
  unfold dropE
  rw [List.foldl_append]
  rfl
theorem dropE_crit : ∀ (wk : List (Nat × Int)) (en : List Int), (∀ q, q ∈ wk → (tkJ ts js q.1).cr = true) → dropE ts js en wk = en
  | [], en, _ => rfl
  | q :: wk, en, h => by
    have h1 := dropE_crit wk en (fun r hr => h r (by simp [hr]))
    unfold dropE at h1 ⊢
    rw [List.foldl_cons, if_pos (h q (by simp))]
    exact h1
theorem drop_one (s : Mc) : oneM ts js (dropM ts js s) = dropM ts js { s with wk := s.wk ++ [(s.nx, 0)], nx := s.nx + 1 } := by
  obtain ⟨en, tr, sw, hi, wk, nx⟩ := s
  cases hi
  · rfl
  · unfold dropM oneM
    dsimp only
    rw [if_pos rfl, if_pos rfl]
    dsimp only
    rw [dropE_snoc, List.filter_append]
    cases hc : (tkJ ts js nx).cr
    · simp [hc]
    · simp [hc]
theorem come_drop : ∀ (f : Nat) (s : Mc), comeM ts js now f (dropM ts js s) = dropM ts js (addM js now f s)
  | 0, s => rfl
  | f + 1, s => by
    have e : (dropM ts js s).nx = s.nx := by unfold dropM; split <;> rfl
    unfold comeM addM
    rw [e]
    by_cases h : (jobOf js s.nx).tm = now
    · rw [if_pos h, if_pos h, drop_one, come_drop f]
    · rw [if_neg h, if_neg h]
theorem drop_self {s : Mc} (h : s.hi = true → ∀ q, q ∈ s.wk → (tkJ ts js q.1).cr = true) : dropM ts js s = s := by
  unfold dropM
  cases hh : s.hi
  · rfl
  · rw [if_pos rfl, dropE_crit _ _ (h hh), List.filter_eq_self.2 (h hh)]
    obtain ⟨en, tr, sw, hi, wk, nx⟩ := s
    dsimp only at hh
    subst hh
    rfl
theorem open_add {n : Int} {g : Nat → Int} {s : Mc} (h : InvM ts js n g s) : openM ts js now s = dropM ts js (addM js now (js.length - s.nx) (lowM s)) := by
  unfold openM
  rw [← come_drop, drop_self (low_inv h).crit]
theorem add_stop {s : Mc} : ∀ f, (s.nx < js.length → (jobOf js s.nx).tm ≠ now) → f ≤ js.length - s.nx → addM js now f s = s
  | 0, _, _ => rfl
  | f + 1, h, hf => by unfold addM; rw [if_neg (h (by omega))]
theorem add_step {s : Mc} (hn : s.nx < js.length) (h : (jobOf js s.nx).tm = now) : addM js now (js.length - s.nx) s = addM js now (js.length - (s.nx + 1)) { s with wk := s.wk ++ [(s.nx, 0)], nx := s.nx + 1 } := by
  rw [show js.length - s.nx = js.length - (s.nx + 1) + 1 by omega]
  conv => lhs; unfold addM
  rw [if_pos h]
theorem sw_drop (now : Int) (s : Mc) : swM ts js now s = dropM ts js { s with hi := true, sw := s.sw ++ [now] } := by
  unfold swM dropM
  rw [if_pos rfl]
/-- The places that are left, in order, below those to come. -/
def LeftOk (s : Mc) (len : Nat) : Prop := (s.wk.map Prod.fst).Pairwise (· < ·) ∧ (∀ q, q ∈ s.wk → q.1 < s.nx) ∧ s.nx ≤ len
theorem left_add {s : Mc} {len : Nat} (h : LeftOk s len) (hn : s.nx < len) : LeftOk { s with wk := s.wk ++ [(s.nx, 0)], nx := s.nx + 1 } len := by
  obtain ⟨h1, h2, h3⟩ := h
  refine ⟨?_, ?_, hn⟩
  · show ((s.wk ++ [(s.nx, (0 : Int))]).map Prod.fst).Pairwise (· < ·)
    rw [List.map_append, List.pairwise_append]
    refine ⟨h1, by simp, fun a ha b hb => ?_⟩
    simp at hb
    subst hb
    rw [List.mem_map] at ha
    obtain ⟨q, hq, rfl⟩ := ha
    exact h2 q hq
  · intro q hq
    show q.1 < s.nx + 1
    have hq' : q ∈ s.wk ++ [(s.nx, (0 : Int))] := hq
    rw [List.mem_append, List.mem_singleton] at hq'
    rcases hq' with hq | rfl
    · have := h2 q hq; omega
    · dsimp only; omega
theorem asc_len : ∀ (l : List Nat) (a b : Nat), l.Pairwise (· < ·) → (∀ x, x ∈ l → a ≤ x ∧ x < b) → a ≤ b → l.length ≤ b - a
  | [], a, b, _, _, _ => by simp
  | x :: l, a, b, hp, hm, hab => by
    have hx := hm x (by simp)
    have h2 := asc_len l (x + 1) b (List.pairwise_cons.1 hp).2 (fun y hy => ⟨(List.pairwise_cons.1 hp).1 y hy, (hm y (by simp [hy])).2⟩) (by omega)
    rw [List.length_cons]; omega
theorem left_len {s : Mc} {len : Nat} (h : LeftOk s len) : s.wk.length ≤ s.nx := by
  have := asc_len (s.wk.map Prod.fst) 0 s.nx h.1 (fun x hx => by
    rw [List.mem_map] at hx
    obtain ⟨q, hq, rfl⟩ := hx
    exact ⟨Nat.zero_le _, h.2.1 q hq⟩) (Nat.zero_le _)
  rw [List.length_map] at this
  omega
theorem inv_left {n : Int} {g : Nat → Int} {s : Mc} (h : InvM ts js n g s) : LeftOk s js.length := ⟨h.srt, fun q hq => (h.wk q hq).1, h.nx⟩
/-- Whoever is taken out by his place. -/
theorem erase_filter : ∀ {wk : List (Nat × Int)} {b k : Nat} {d : Int}, (wk.map Prod.fst).Pairwise (· < ·) → wk[b]? = some (k, d) → wk.filter (fun q => !decide ((q.1 : Int) = (k : Int))) = wk.eraseIdx b
  | [], b, k, d, _, h => by simp at h
  | q :: wk, 0, k, d, hp, h => by
    simp at h
    subst h
    rw [List.map_cons, List.pairwise_cons] at hp
    rw [List.filter_cons, if_neg (by simp), List.eraseIdx_cons_zero]
    refine List.filter_eq_self.2 fun r hr => ?_
    have := hp.1 r.1 (List.mem_map.2 ⟨r, hr, rfl⟩)
    dsimp only at this
    simp only [Bool.not_eq_true', decide_eq_false_iff_not]
    omega
  | q :: wk, b + 1, k, d, hp, h => by
    rw [List.map_cons, List.pairwise_cons] at hp
    have h' : wk[b]? = some (k, d) := by simpa using h
    have := hp.1 k (List.mem_map.2 ⟨(k, d), List.mem_of_getElem? h', rfl⟩)
    rw [List.filter_cons, if_pos (by simp only [Bool.not_eq_true', decide_eq_false_iff_not]; omega), List.eraseIdx_cons_succ, erase_filter hp.2 h']
theorem best_at {lt : Nat → Nat → Bool} {ks : List Nat} (hs : ∀ a, lt a a = false) {j : Nat} {r : Bool} (h : lt (ks.getD j 0) (ks.getD (bestTo lt ks (j - 1)) 0) = r) : ks.getD (bestTo lt ks j) 0 = if r then ks.getD j 0 else ks.getD (bestTo lt ks (j - 1)) 0 := by
  cases j with
  | zero =>
    have e : bestTo lt ks 0 = 0 := rfl
    rw [show 0 - 1 = 0 from rfl, e] at h
    rw [hs] at h
    subst h
    rfl
  | succ j =>
    rw [show j + 1 - 1 = j from rfl] at h ⊢
    conv => lhs; unfold bestTo
    cases r
    · rw [if_neg (by rw [h]; decide)]; rfl
    · rw [if_pos h]; rfl
end
end Go.Proofs.YtgponahmkjohiabGreatDoor
