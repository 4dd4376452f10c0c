/- Texts of this seat in one file: Sort, Sort2, Dr3. -/
import Derived.Test.YtpalcnhceffcmaaND
import Derived.Test.YtpalcnhceffcmaaNA
import Derived.Deep.RegionHeld3
import Derived.Laws.AppendOwnNone
namespace Go.Proofs.Ytpalcnhceffcmaa

section
/- Contracts of SortDue, in the program and in the reference: both return the tasks sorted by insertion from behind, in memory of their own. -/
open Go.RowKit

/-- Whether one task goes before another one. -/
def beforeB (du ev du' ev' : Int) : Bool := if du = du' then decide (ev < ev') else decide (du < du')
def Tk.bef (t u : Tk) : Bool := beforeB t.du t.ev u.du u.ev

theorem sBefore_any (lo hi du ev : Int) (cr : Bool) (lo' hi' du' ev' : Int) (cr' : Bool) (w : World) :
    Calls Try.prog 65 #[.agg #[.int .i64 lo, .int .i64 hi, .int .i64 du, .int .i64 ev, .bool cr], .agg #[.int .i64 lo', .int .i64 hi', .int .i64 du', .int .i64 ev', .bool cr']] w fun e w' =>
      e = .returned (.bool (beforeB du ev du' ev')) ∧ Below w.heap.size w w' := by
  by_cases h : du = du'
  · subst h
    go_enter Try.func65, Try.ntmps65
    go_wp2
    go_ret
    exact ⟨by simp [beforeB], bl_alloc (bl_alloc (Below.refl _ _) _) _⟩
  · have h' : (du != du') = true := by simpa using h
    have H := Lib.hid h
    clear h
    go_enter Try.func65, Try.ntmps65
    go_wp2
    go_ret
    exact ⟨by simp [beforeB, H.out], bl_alloc (bl_alloc (Below.refl _ _) _) _⟩

/-- The place of t in a list, looked for from place p downwards. -/
def posB (t : Tk) (out : List Tk) : Nat → Nat
  | 0 => 0
  | p + 1 => match out[p]? with
    | some u => if t.bef u then posB t out p else p + 1
    | none => p + 1
theorem posB_le (t : Tk) (out : List Tk) : ∀ p, posB t out p ≤ p
  | 0 => Nat.le_refl _
  | p + 1 => by
    unfold posB
    split
    · split
      · exact Nat.le_succ_of_le (posB_le t out p)
      · exact Nat.le_refl _
    · exact Nat.le_refl _
def insB (t : Tk) (out : List Tk) : List Tk := out.take (posB t out out.length) ++ t :: out.drop (posB t out out.length)
def sortL (ts : List Tk) : List Tk := ts.foldl (fun out t => insB t out) []
def sortOf (ts : List Tk) : List Tk := if setB ts then sortL ts else []
theorem insB_len (t : Tk) (out : List Tk) : (insB t out).length = out.length + 1 := by
  have := posB_le t out out.length
  simp [insB]; omega
theorem sortL_take {ts : List Tk} {k : Nat} {t : Tk} (h : ts[k]? = some t) : sortL (ts.take (k + 1)) = insB t (sortL (ts.take k)) := by
  obtain ⟨hk, rfl⟩ := List.getElem?_eq_some_iff.1 h
  rw [List.take_succ_eq_append_getElem hk]
  simp only [sortL, List.foldl_append, List.foldl_cons, List.foldl_nil]
theorem sortL_len (ts : List Tk) : (sortL ts).length = ts.length := by
  have : ∀ (ts out : List Tk), (ts.foldl (fun out t => insB t out) out).length = out.length + ts.length := by
    intro ts
    induction ts with
    | nil => intro out; rfl
    | cons t ts ih => intro out; rw [List.foldl_cons, ih, insB_len, List.length_cons]; omega
  have := this ts []
  simpa [sortL] using this

theorem ret_slice {A : Option Addr} {a b c : Nat} (h : a = b) : Ending.returned (.slice A a c) = .returned (.slice A b c) := by rw [h]

theorem gb_of_below {a w : World} (h : Below a.heap.size a w) (row : Option Nat) : a.grownBy w row := ⟨h.os, h.tape, h.output, h.size, fun i hi _ => h.block i hi⟩

theorem posB_yes {t u : Tk} {out : List Tk} {q : Nat} (h : out[q]? = some u) (hb : t.bef u = true) : posB t out (q + 1) = posB t out q := by
  show (match out[q]? with | some u => if t.bef u then posB t out q else q + 1 | none => q + 1) = _
  rw [h]; simp [hb]
theorem posB_no {t u : Tk} {out : List Tk} {q : Nat} (h : out[q]? = some u) (hb : t.bef u = false) : posB t out (q + 1) = q + 1 := by
  show (match out[q]? with | some u => if t.bef u then posB t out q else q + 1 | none => q + 1) = _
  rw [h]; simp [hb]
end

section
/- Contracts of SortDue, in the program and in the reference: both return the tasks sorted by insertion from behind, in memory of their own. -/
open Go.RowKit

theorem Own.kept_dn {w w' : World} {B M : Nat} {v : Value} {ts : List Tk} {row : Option Nat} (h : Own w B v ts) (hg : w.grownBy w' row) (hv : ∀ k, v.ownBlock = some k → k < M) (hr : ∀ k, row = some k → M ≤ k) : Own w' B v ts := by
  refine World.ownsRow.kept h hg ?_
  rcases he : v.ownBlock with _ | k
  · exact .inl rfl
  · right
    intro e
    have := hv k he
    have := hr k e.symm
    omega
theorem own_first {w : World} {B q : Nat} {v : Value} {us : List Tk} (hl : us.length = 0 + q) (h : w.ownsRow B 54 5 v (0 + q) ([] ++ us.flatMap Tk.cells)) : Own w B v us := by
  show w.ownsRow _ _ _ _ _ _
  rw [hl]
  simpa using h
theorem tk_at {w : World} {B b o n i : Nat} {ts : List Tk} {t : Tk} (h : Tks w B (some ⟨b, o, none⟩) n ts) (ht : ts[i]? = some t) :
    w.cell? ⟨b, o + i * 5, none⟩ = some (.int .i64 t.lo) ∧ w.cell? ⟨b, o + i * 5 + 1, none⟩ = some (.int .i64 t.hi) ∧ w.cell? ⟨b, o + i * 5 + 2, none⟩ = some (.int .i64 t.du) ∧ w.cell? ⟨b, o + i * 5 + 3, none⟩ = some (.int .i64 t.ev) ∧ w.cell? ⟨b, o + i * 5 + 4, none⟩ = some (.bool t.cr) := by
  obtain ⟨b', o', e, _, c0, c1, c2, c3, c4⟩ := h.at_ i t ht
  injection e with e
  injection e with e1 e2
  subst e1 e2
  exact ⟨c0, c1, c2, c3, c4⟩
theorem drop_at {w : World} {B g k cc q : Nat} {out : List Tk} (ho : Own w B (.slice (some ⟨g, 0, none⟩) k cc) out) (hl : k = out.length) (ad : Addr) (had : cc = q ∨ ad = ⟨g, q * 5, none⟩) (hkc : k ≤ cc) :
    ∀ (j : Nat) (u : Value), ((out.drop q).flatMap Tk.cells)[j]? = some u → w.cell? (ad.add j) = some u := fun j u hu => by
  have hj := (List.getElem?_eq_some_iff.1 hu).1
  rw [cells_length, List.length_drop, ← hl] at hj
  rcases had with h1 | h1
  · omega
  · subst h1 hl
    rw [← drop_cells, List.getElem?_drop] at hu
    have := World.ownsRow.cells ho (g := g) rfl (q * 5 + j) u hu
    have e1 : (⟨g, 0, none⟩ : Addr).add (q * 5 + j) = ⟨g, q * 5 + j, none⟩ := by unfold Addr.add; split <;> simp_all
    have e2 : (⟨g, q * 5, none⟩ : Addr).add j = ⟨g, q * 5 + j, none⟩ := by unfold Addr.add; split <;> simp_all
    rw [e2]; rw [e1] at this; exact this
theorem own_last {w : World} {B B' q k : Nat} {v : Value} {out : List Tk} {t : Tk} (hl : k = out.length) (hq : posB t out out.length = q) (hB : B' ≤ B)
    (h : w.ownsRow B 54 5 v ((out.take q ++ [t]).length + (k - q)) ((out.take q ++ [t]).flatMap Tk.cells ++ (out.drop q).flatMap Tk.cells)) : Own w B' v (insB t out) := by
  refine own_more (B := B) ?_ hB
  unfold insB
  rw [hq]
  show w.ownsRow _ _ _ _ _ _
  have e : (out.take q ++ t :: out.drop q).length = (out.take q ++ [t]).length + (k - q) := by simp [hl] <;> omega
  have e2 : (out.take q ++ t :: out.drop q).flatMap Tk.cells = (out.take q ++ [t]).flatMap Tk.cells ++ (out.drop q).flatMap Tk.cells := by simp [List.flatMap_append, List.flatMap_cons]
  rw [e, e2]
  exact h

/-- The tasks of a list that is not nil lie in a block. -/
theorem own_form {w : World} {B : Nat} {v : Value} {ts : List Tk} (h : Own w B v ts) (hv : v ≠ .slice none 0 0) : ∃ g c, v = .slice (some ⟨g, 0, none⟩) ts.length c := by
  rcases h.2 with ⟨e, _⟩ | ⟨g, cap, cur, e, _⟩
  · exact absurd e hv
  · exact ⟨g, cap, e⟩

set_option maxRecDepth 100000 in
set_option maxHeartbeats 4000000 in
theorem sSortDue_any (w : World) (A : Option Addr) (n c : Nat) (ts : List Tk) (h : Tks w w.heap.size A n ts) (hn : n ≤ 1048576) :
    Calls Try.prog 56 #[.slice A n c] w (LsRes (sortOf ts) w) := by
  obtain ⟨i0, hi, hz0, hz1, hz2⟩ := info_parts info_task
  have H := Lib.hid h
  have HL := Lib.hid h.len
  clear h
  cases hs : setB ts
  · have hn0 : 0 < n := by
      rcases Nat.eq_zero_or_pos n with h0 | h0
      · have : ts = [] := List.eq_nil_of_length_eq_zero (by rw [HL.out, h0])
        rw [this] at hs; cases hs
      · exact h0
    go_enter Try.func56, Try.ntmps56
    go_wp2
    go_loopw [3, 4] (fun v i wr => i = .int .i64 0 ∧ Own wr w.heap.size v [] ∧ Below w.heap.size w wr) (fun _ _ _ => 0)
    case atStart => exact ⟨rfl, Own.empty w, bl_alloc (Below.refl _ _) _⟩
    case round =>
      obtain ⟨rfl, ho, hb⟩ := hrel
      have HO := Lib.hid ho
      have HB := Lib.hid hb
      have hsz : w.heap.size ≤ wr.heap.size := hb.size
      clear ho hb
      go_wp2_with fail
      refine (sSetValid_any _ _ _ _ ts ((H.out.below HB.out).more hsz) hn).mono ?_
      rintro e w2 ⟨rfl, hb2⟩
      have HB2 := Lib.hid (bl_trans HB.out hb2)
      have HO2 := Lib.hid (HO.out.below hb2)
      clear hb2
      go_wp2
      go_ret
      exact lsRes_of HO2.out HB2.out (by simp [sortOf, hs])
  have h5 : n ≤ 5 := by have := setB_len hs; rw [HL.out] at this; exact this
  have HS := Lib.hid hs
  go_enter Try.func56, Try.ntmps56
  go_wp2
  go_loopw [3, 4] (fun v i wr => ∃ k : Nat, k ≤ n ∧ i = .int .i64 k ∧ ∃ gg cc : Nat, v = .slice (some ⟨gg, 0, none⟩) k cc ∧ Own wr w.heap.size (.slice (some ⟨gg, 0, none⟩) k cc) (sortL (ts.take k)) ∧ Below w.heap.size w wr) (fun _ i _ => n - (intOf i).toNat)
  case atStart => exact ⟨0, Nat.zero_le _, rfl, w.heap.size, 0, rfl, Own.empty w, bl_alloc (Below.refl _ _) _⟩
  case round =>
    obtain ⟨i, hk, rfl, gg, cc, rfl, ho, hb⟩ := hrel
    have HO0 := Lib.hid ho
    have HB0 := Lib.hid hb
    have hsz0 : w.heap.size ≤ wr.heap.size := hb.size
    clear ho hb
    by_cases hlt : i < n
    · go_wp2_with fail
      refine (sSetValid_any _ _ _ _ ts ((H.out.below HB0.out).more hsz0) (by omega)).mono ?_
      rintro e wo ⟨rfl, hb2⟩
      have HBo := Lib.hid (bl_trans HB0.out hb2)
      have HOo := Lib.hid (HO0.out.below hb2)
      clear hb2
      obtain ⟨t, ht⟩ : ∃ t, ts[i]? = some t := ⟨ts[i]'(by rw [HL.out]; exact hlt), List.getElem?_eq_getElem _⟩
      have HTK := Lib.hid (sortL_take ht)
      obtain ⟨out, hout⟩ : ∃ out, out = sortL (ts.take i) := ⟨_, rfl⟩
      have hol : i = out.length := by rw [hout, sortL_len, List.length_take, HL.out]; omega
      rw [← hout] at HTK HOo
      have HL2 : Hid (i = out.length) := hol
      obtain ⟨hx, hgb, cur, hx2, hkc, hcm, hx3, hx4⟩ := own_block HOo.out
      clear hx hx2 hx3 hx4
      unfold maxLen at hcm
      obtain ⟨b2, o2, rfl, hbl2, _⟩ := H.out.at_ i t ht
      obtain ⟨lo, hi', du, ev, cr⟩ := t
      have HTI := Lib.hid ht
      have hk5 : i ≤ 5 := by omega
      have i4 : (0 : Int) ≤ (i : Int) := by omega
      have i5 : (i : Int) < (n : Int) := by omega
      clear ht hout hol HO0 HB0
      go_wp2
      clear hs
      go_loopw [5] (fun p wr => ∃ q : Nat, q ≤ i ∧ p = .int .i64 q ∧ Hid (posB ⟨lo, hi', du, ev, cr⟩ out q = posB ⟨lo, hi', du, ev, cr⟩ out i) ∧ Below w.heap.size w wr ∧ Own wr w.heap.size (.slice (some ⟨gg, 0, none⟩) i cc) out) (fun p _ => (intOf p).toNat)
      case atStart => exact ⟨i, Nat.le_refl _, rfl, by show _ = _; rfl, HBo.out, HOo.out⟩
      case round =>
        obtain ⟨p, hp, rfl, hpos, hb, ho⟩ := hrel
        have HB := Lib.hid hb
        have HO := Lib.hid ho
        have hszr : w.heap.size ≤ wr.heap.size := hb.size
        have hgr : gg < wr.heap.size := (World.ownsRow.lt ho gg rfl).2
        clear hb ho
        by_cases hp0 : p = 0
        · have i9 : decide (0 < p) = false := by simp [hp0]
          have HP0 := Lib.hid hp0
          clear hp0
          go_wp2
          go_quiet (fail)
          clear i9
          have HBq : Hid (Below w.heap.size w (wr.drewN nq)) := bl_drewN HB.out _
          have HOq : Hid (Own (wr.drewN nq) w.heap.size (.slice (some ⟨gg, 0, none⟩) i cc) out) := HO.out
          clear HB HO hszr hgr
          generalize wr.drewN nq = w' at HBq HOq ⊢
          have HB := HBq
          have HO := HOq
          clear HBq HOq
          have hlast : Hid (posB ⟨lo, hi', du, ev, cr⟩ out out.length = p) := by show _ = _; rw [← HL2.out, ← hpos.out, HP0.out]; rfl
          have HBW : Hid (Below w.heap.size w w') := by first | exact HB.out | exact bl_drewN HB.out _
          have HOW : Hid (Own w' w.heap.size (.slice (some ⟨gg, 0, none⟩) i cc) out) := HO.out
          have hszW : w.heap.size ≤ w'.heap.size := HBW.out.size
          have hgW : gg < w'.heap.size := (World.ownsRow.lt HOW.out gg rfl).2
          have nl1 : ((out.take (p)).flatMap Tk.cells).length = (p) * 5 := by rw [cells_length, List.length_take, ← HL2.out, show min (p) i = p by omega]
          have nb1 : 0 + (p) ≤ maxLen := by unfold maxLen; omega
          have nb2 : (0 + (p)) * 40 ≤ 140737488355328 := by omega
          have HN1 : Hid (∀ (o : Obj) (j : Nat) (u : Value), ((out.take (p)).flatMap Tk.cells)[j]? = some u → (w'.alloc o).cell? ((⟨gg, 0, none⟩ : Addr).add j) = some u) := fun o j u hu => by
            rw [← take_cells] at hu
            rw [List.getElem?_take] at hu
            split at hu
            · exact World.ownsRow.cells (World.ownsRow.alloc HOW.out o) (g := gg) rfl j u hu
            · cases hu
          have mb1 : (out.take (p)).length + 1 ≤ maxLen := by rw [List.length_take]; unfold maxLen; omega
          have mb2 : ((out.take (p)).length + 1) * 40 ≤ 140737488355328 := by rw [List.length_take]; omega
          have pl : (out.take (p) ++ [(⟨lo, hi', du, ev, cr⟩ : Tk)]).length = (p) + 1 := by rw [List.length_append, List.length_take, ← HL2.out]; simp <;> omega
          have pb1 : (out.take (p) ++ [(⟨lo, hi', du, ev, cr⟩ : Tk)]).length + (i - (p)) ≤ maxLen := by rw [pl]; unfold maxLen; omega
          have pb2 : ((out.take (p) ++ [(⟨lo, hi', du, ev, cr⟩ : Tk)]).length + (i - (p))) * 40 ≤ 140737488355328 := by rw [pl]; omega
          have pn : ((out.drop (p)).flatMap Tk.cells).length = (i - (p)) * 5 := by rw [cells_length, List.length_drop, ← HL2.out]
          have PL := Lib.hid pl
          have NL1 := Lib.hid nl1
          have PN := Lib.hid pn
          clear pl nl1 pn
          by_cases hcq : cc = (p)
          · have hcq2 := hcq.symm
            clear hcq
            subst hcq2
            have HZ : Hid (i - (p) = 0) := by show _ = _; omega
            have PZ : Hid (((out.drop (p)).flatMap Tk.cells).length = 0 * 5) := by show _ = _; rw [PN.out, HZ.out]
            have pz1 : (out.take (p) ++ [(⟨lo, hi', du, ev, cr⟩ : Tk)]).length + 0 ≤ maxLen := by omega
            have pz2 : ((out.take (p) ++ [(⟨lo, hi', du, ev, cr⟩ : Tk)]).length + 0) * 40 ≤ 140737488355328 := by rw [HZ.out] at pb2; exact pb2
            go_wp2_with (first
              | (at_builtin
                 refine wpList_append_own _ rfl (.tmp 36) (.tmp 39) 23 rfl (w'.heap.size) 54 i0 _ 5 40 Try.underlying23 hi hz0 hz1 hz2 rfl (by decide) _ 0 [] rfl (Own.empty w') ⟨gg, 0, none⟩ (p) (p) ((out.take (p)).flatMap Tk.cells) rfl NL1.out (HN1.out _) (cells_one _) nb1 nb2 (by simp) ?_
                 intro v1 w5 hown1 hgrow1 _
                 have hsz5 : w'.heap.size ≤ w5.heap.size := by have h := hgrow1.size; rw [World.size_alloc] at h; omega
                 have HX1 : Hid (Own w5 w'.heap.size v1 (out.take (p))) := own_first (by rw [List.length_take, ← HL2.out]; omega) hown1
                 have HB5 := Lib.hid ((bl_alloc HBW.out (.cells #[] 54)).grown hgrow1 (by rw [World.size_alloc]; omega) (fun x e => by have e' : some w'.heap.size = some x := e; injection e' with e'; omega))
                 have HO5 : Hid (Own w5 w.heap.size (.slice (some ⟨gg, 0, none⟩) i (p)) out) := Own.kept_dn (Own.alloc HOW.out (.cells #[] 54)) hgrow1 (M := w'.heap.size) (fun x e => by have e' : some gg = some x := e; injection e' with e'; omega) (fun x e => by have e' : some w'.heap.size = some x := e; injection e' with e'; omega)
                 clear hown1 hgrow1
                 obtain ⟨c0, c1, c2, c3, c4⟩ := tk_at (H.out.below HB5.out) HTI.out)
              | (at_builtin
                 refine wpList_append_own _ rfl (.tmp 41) (.tmp 46) 23 rfl (w'.heap.size) 54 i0 _ 5 40 Try.underlying23 hi hz0 hz1 hz2 rfl (by decide) v1 (out.take (p)).length ((out.take (p)).flatMap Tk.cells) rfl (World.ownsRow.alloc HX1.out _) ⟨w5.heap.size, 0, none⟩ 1 1 (Tk.cells ⟨lo, hi', du, ev, cr⟩) rfl rfl (cell_new5 _ ⟨lo, hi', du, ev, cr⟩ _) (by intro u hu; exact cells_one [⟨lo, hi', du, ev, cr⟩] u (by simpa using hu)) mb1 mb2 (by simp; omega) ?_
                 intro v2 w6 hown2 hgrow2 hiff2
                 have hsz6 : w'.heap.size ≤ w6.heap.size := by have h := hgrow2.size; rw [World.size_alloc] at h; omega
                 have HX2 := Lib.hid (Own.snoc hown2)
                 have HB6 := Lib.hid ((bl_alloc HB5.out _).grown hgrow2 (by rw [World.size_alloc]; omega) (fun x e => by have := (World.ownsRow.lt HX1.out x e).1; omega))
                 have HO6 : Hid (Own w6 w.heap.size (.slice (some ⟨gg, 0, none⟩) i (p)) out) := Own.kept_dn (Own.alloc HO5.out _) hgrow2 (M := w'.heap.size) (fun x e => by have e' : some gg = some x := e; injection e' with e'; omega) (fun x e => (World.ownsRow.lt HX1.out x e).1)
                 have HNN2 : Hid (v2 ≠ .slice none 0 0) := fun e => by have := (hiff2.1 e).2; omega
                 have HN4 := Lib.hid (drop_at HO6.out HL2.out (⟨gg, 0, none⟩) (.inl rfl) (by omega))
                 clear hown2 hgrow2 hiff2 c0 c1 c2 c3 c4)
              | (at_builtin
                 refine wpList_append_own _ rfl (.tmp 48) (.tmp 51) 23 rfl (w'.heap.size) 54 i0 _ 5 40 Try.underlying23 hi hz0 hz1 hz2 rfl (by decide) v2 (out.take (p) ++ [(⟨lo, hi', du, ev, cr⟩ : Tk)]).length ((out.take (p) ++ [(⟨lo, hi', du, ev, cr⟩ : Tk)]).flatMap Tk.cells) rfl HX2.out ⟨gg, 0, none⟩ 0 _ ((out.drop (p)).flatMap Tk.cells) rfl PZ.out HN4.out (cells_one _) pz1 pz2 (by omega) ?_
                 intro v3 w7 hown3 hgrow3 hiff3
                 have HX3 : Hid (Own w7 w.heap.size v3 (insB ⟨lo, hi', du, ev, cr⟩ out)) := own_last HL2.out hlast.out hszW (by rw [HZ.out]; exact hown3)
                 have HB7 := Lib.hid (HB6.out.grown hgrow3 HB6.out.size (fun x e => by have := (World.ownsRow.lt HX2.out x e).1; omega))
                 have HNN3 : Hid (v3 ≠ .slice none 0 0) := fun e => HNN2.out (hiff3.1 e).1
                 clear hown3 hgrow3 hiff3))
            obtain ⟨g3, c3, hv3⟩ := own_form HX3.out HNN3.out
            have HV3 := Lib.hid hv3
            clear hv3
            go_roundw
            case rel => exact ⟨i + 1, by omega, by go_num, g3, c3, by rw [HV3.out, insB_len, ← HL2.out], by rw [HTK.out]; have hx := HX3.out; rw [HV3.out, insB_len, ← HL2.out] at hx; exact hx, HB7.out⟩
            case measure => simp [intOf]; omega
          · have HCQ := Lib.hid hcq
            go_wp2_with (first
              | (at_builtin
                 refine wpList_append_own _ rfl (.tmp 36) (.tmp 39) 23 rfl (w'.heap.size) 54 i0 _ 5 40 Try.underlying23 hi hz0 hz1 hz2 rfl (by decide) _ 0 [] rfl (Own.empty w') ⟨gg, 0, none⟩ (p) cc ((out.take (p)).flatMap Tk.cells) rfl NL1.out (HN1.out _) (cells_one _) nb1 nb2 (by simp) ?_
                 intro v1 w5 hown1 hgrow1 _
                 have hsz5 : w'.heap.size ≤ w5.heap.size := by have h := hgrow1.size; rw [World.size_alloc] at h; omega
                 have HX1 : Hid (Own w5 w'.heap.size v1 (out.take (p))) := own_first (by rw [List.length_take, ← HL2.out]; omega) hown1
                 have HB5 := Lib.hid ((bl_alloc HBW.out (.cells #[] 54)).grown hgrow1 (by rw [World.size_alloc]; omega) (fun x e => by have e' : some w'.heap.size = some x := e; injection e' with e'; omega))
                 have HO5 : Hid (Own w5 w.heap.size (.slice (some ⟨gg, 0, none⟩) i cc) out) := Own.kept_dn (Own.alloc HOW.out (.cells #[] 54)) hgrow1 (M := w'.heap.size) (fun x e => by have e' : some gg = some x := e; injection e' with e'; omega) (fun x e => by have e' : some w'.heap.size = some x := e; injection e' with e'; omega)
                 clear hown1 hgrow1
                 obtain ⟨c0, c1, c2, c3, c4⟩ := tk_at (H.out.below HB5.out) HTI.out)
              | (at_builtin
                 refine wpList_append_own _ rfl (.tmp 41) (.tmp 46) 23 rfl (w'.heap.size) 54 i0 _ 5 40 Try.underlying23 hi hz0 hz1 hz2 rfl (by decide) v1 (out.take (p)).length ((out.take (p)).flatMap Tk.cells) rfl (World.ownsRow.alloc HX1.out _) ⟨w5.heap.size, 0, none⟩ 1 1 (Tk.cells ⟨lo, hi', du, ev, cr⟩) rfl rfl (cell_new5 _ ⟨lo, hi', du, ev, cr⟩ _) (by intro u hu; exact cells_one [⟨lo, hi', du, ev, cr⟩] u (by simpa using hu)) mb1 mb2 (by simp; omega) ?_
                 intro v2 w6 hown2 hgrow2 hiff2
                 have hsz6 : w'.heap.size ≤ w6.heap.size := by have h := hgrow2.size; rw [World.size_alloc] at h; omega
                 have HX2 := Lib.hid (Own.snoc hown2)
                 have HB6 := Lib.hid ((bl_alloc HB5.out _).grown hgrow2 (by rw [World.size_alloc]; omega) (fun x e => by have := (World.ownsRow.lt HX1.out x e).1; omega))
                 have HO6 : Hid (Own w6 w.heap.size (.slice (some ⟨gg, 0, none⟩) i cc) out) := Own.kept_dn (Own.alloc HO5.out _) hgrow2 (M := w'.heap.size) (fun x e => by have e' : some gg = some x := e; injection e' with e'; omega) (fun x e => (World.ownsRow.lt HX1.out x e).1)
                 have HNN2 : Hid (v2 ≠ .slice none 0 0) := fun e => by have := (hiff2.1 e).2; omega
                 have HN4 := Lib.hid (drop_at HO6.out HL2.out (⟨gg, (p) * 5, none⟩) (.inr rfl) (by omega))
                 clear hown2 hgrow2 hiff2 c0 c1 c2 c3 c4)
              | (at_builtin
                 refine wpList_append_own _ rfl (.tmp 48) (.tmp 51) 23 rfl (w'.heap.size) 54 i0 _ 5 40 Try.underlying23 hi hz0 hz1 hz2 rfl (by decide) v2 (out.take (p) ++ [(⟨lo, hi', du, ev, cr⟩ : Tk)]).length ((out.take (p) ++ [(⟨lo, hi', du, ev, cr⟩ : Tk)]).flatMap Tk.cells) rfl HX2.out ⟨gg, (p) * 5, none⟩ (i - (p)) _ ((out.drop (p)).flatMap Tk.cells) rfl PN.out HN4.out (cells_one _) pb1 pb2 (by omega) ?_
                 intro v3 w7 hown3 hgrow3 hiff3
                 have HX3 : Hid (Own w7 w.heap.size v3 (insB ⟨lo, hi', du, ev, cr⟩ out)) := own_last HL2.out hlast.out hszW hown3
                 have HB7 := Lib.hid (HB6.out.grown hgrow3 HB6.out.size (fun x e => by have := (World.ownsRow.lt HX2.out x e).1; omega))
                 have HNN3 : Hid (v3 ≠ .slice none 0 0) := fun e => HNN2.out (hiff3.1 e).1
                 clear hown3 hgrow3 hiff3))
            obtain ⟨g3, c3, hv3⟩ := own_form HX3.out HNN3.out
            have HV3 := Lib.hid hv3
            clear hv3
            go_roundw
            case rel => exact ⟨i + 1, by omega, by go_num, g3, c3, by rw [HV3.out, insB_len, ← HL2.out], by rw [HTK.out]; have hx := HX3.out; rw [HV3.out, insB_len, ← HL2.out] at hx; exact hx, HB7.out⟩
            case measure => simp [intOf]; omega
        obtain ⟨q, rfl⟩ : ∃ q, p = q + 1 := ⟨p - 1, by omega⟩
        clear hp0
        · obtain ⟨u, hu⟩ : ∃ u, out[q]? = some u := ⟨out[q]'(by rw [← HL2.out]; omega), List.getElem?_eq_getElem _⟩
          obtain ⟨b, o, eA, hbl, c0, c1, c2, c3, c4⟩ := HO.out.reads.2.at_ q u hu
          injection eA with eA
          injection eA with eA1 eA2
          subst eA1 eA2
          simp only [Nat.zero_add] at c0 c1 c2 c3 c4
          obtain ⟨d0, d1, d2, d3, d4⟩ := tk_at (H.out.below HB.out) HTI.out
          dsimp only at d0 d1 d2 d3 d4
          have hgr2 : b2 < wr.heap.size := by omega
          obtain ⟨lo2, hi2, du2, ev2, cr2⟩ := u
          dsimp only at c0 c1 c2 c3 c4
          have HU := Lib.hid hu
          clear hu
          have i1 : (0 : Int) ≤ (q : Int) := by omega
          have i2 : (q : Int) < (i : Int) := by omega
          have i3 : (0 : Int) < (q : Int) + 1 := by omega
          have k1 : IntKind.i64.wrap ((q : Int) + 1 - 1) = (q : Int) := by rw [show (q : Int) + 1 - 1 = q by omega]; exact IntWalk.i64_in _ (by omega)
          have k2 : IntKind.i64.wrap (q : Int) = (q : Int) := IntWalk.i64_in _ (by clear k1; omega)
          go_wp2
          go_region_held3 (fun W => (W.cell? ⟨b2, o2 + i * 5, none⟩ = some (.int .i64 lo) ∧ W.cell? ⟨b2, o2 + i * 5 + 1, none⟩ = some (.int .i64 hi') ∧ W.cell? ⟨b2, o2 + i * 5 + 2, none⟩ = some (.int .i64 du) ∧ W.cell? ⟨b2, o2 + i * 5 + 3, none⟩ = some (.int .i64 ev) ∧ W.cell? ⟨b2, o2 + i * 5 + 4, none⟩ = some (.bool cr)) ∧ W.cell? ⟨gg, q * 5, none⟩ = some (.int .i64 lo2) ∧ W.cell? ⟨gg, q * 5 + 1, none⟩ = some (.int .i64 hi2) ∧ W.cell? ⟨gg, q * 5 + 2, none⟩ = some (.int .i64 du2) ∧ W.cell? ⟨gg, q * 5 + 3, none⟩ = some (.int .i64 ev2) ∧ W.cell? ⟨gg, q * 5 + 4, none⟩ = some (.bool cr2)) (first | assumption | (simp [go_sem, *]; done))
            ((go_at_call 65; refine (sBefore_any lo hi' du ev cr lo2 hi2 du2 ev2 cr2 _).mono ?_; rintro e w' ⟨rfl, hb⟩; have c0' := (hb.cell (p := ⟨gg, q * 5, none⟩) hgr).trans c0; have c1' := (hb.cell (p := ⟨gg, q * 5 + 1, none⟩) hgr).trans c1; have c2' := (hb.cell (p := ⟨gg, q * 5 + 2, none⟩) hgr).trans c2; have c3' := (hb.cell (p := ⟨gg, q * 5 + 3, none⟩) hgr).trans c3; have c4' := (hb.cell (p := ⟨gg, q * 5 + 4, none⟩) hgr).trans c4; have d0' := (hb.cell (p := ⟨b2, o2 + i * 5, none⟩) hgr2).trans d0; have d1' := (hb.cell (p := ⟨b2, o2 + i * 5 + 1, none⟩) hgr2).trans d1; have d2' := (hb.cell (p := ⟨b2, o2 + i * 5 + 2, none⟩) hgr2).trans d2; have d3' := (hb.cell (p := ⟨b2, o2 + i * 5 + 3, none⟩) hgr2).trans d3; have d4' := (hb.cell (p := ⟨b2, o2 + i * 5 + 4, none⟩) hgr2).trans d4; have HBW : Hid (Below wr.heap.size wr w') := ⟨hb.os, hb.tape, hb.output, hb.size, hb.block⟩; clear hb))
          clear k1 k2 c0 c1 c2 c3 c4 d0 d1 d2 d3 d4 c0' c1' c2' c3' c4' d0' d1' d2' d3' d4'
          have HB' := Lib.hid (HB.out.trans (HBW.out.mono hszr))
          have HO' := Lib.hid (HO.out.below HBW.out)
          clear HB HO HBW
          have HB := HB'
          have HO := HO'
          clear HB' HO'
          cases hv : beforeB du ev du2 ev2
          · have hlast0 : Hid (posB ⟨lo, hi', du, ev, cr⟩ out i = q + 1) := by show _ = _; rw [← hpos.out]; exact posB_no HU.out hv
            have hlast : Hid (posB ⟨lo, hi', du, ev, cr⟩ out out.length = q + 1) := by show _ = _; rw [← HL2.out]; exact hlast0.out
            have HBW : Hid (Below w.heap.size w w') := by first | exact HB.out | exact bl_drewN HB.out _
            have HOW : Hid (Own w' w.heap.size (.slice (some ⟨gg, 0, none⟩) i cc) out) := HO.out
            have hszW : w.heap.size ≤ w'.heap.size := HBW.out.size
            have hgW : gg < w'.heap.size := (World.ownsRow.lt HOW.out gg rfl).2
            have nl1 : ((out.take (q + 1)).flatMap Tk.cells).length = (q + 1) * 5 := by rw [cells_length, List.length_take, ← HL2.out, show min (q + 1) i = q + 1 by omega]
            have nb1 : 0 + (q + 1) ≤ maxLen := by unfold maxLen; omega
            have nb2 : (0 + (q + 1)) * 40 ≤ 140737488355328 := by omega
            have HN1 : Hid (∀ (o : Obj) (j : Nat) (u : Value), ((out.take (q + 1)).flatMap Tk.cells)[j]? = some u → (w'.alloc o).cell? ((⟨gg, 0, none⟩ : Addr).add j) = some u) := fun o j u hu => by
              rw [← take_cells] at hu
              rw [List.getElem?_take] at hu
              split at hu
              · exact World.ownsRow.cells (World.ownsRow.alloc HOW.out o) (g := gg) rfl j u hu
              · cases hu
            have mb1 : (out.take (q + 1)).length + 1 ≤ maxLen := by rw [List.length_take]; unfold maxLen; omega
            have mb2 : ((out.take (q + 1)).length + 1) * 40 ≤ 140737488355328 := by rw [List.length_take]; omega
            have pl : (out.take (q + 1) ++ [(⟨lo, hi', du, ev, cr⟩ : Tk)]).length = (q + 1) + 1 := by rw [List.length_append, List.length_take, ← HL2.out]; simp <;> omega
            have pb1 : (out.take (q + 1) ++ [(⟨lo, hi', du, ev, cr⟩ : Tk)]).length + (i - (q + 1)) ≤ maxLen := by rw [pl]; unfold maxLen; omega
            have pb2 : ((out.take (q + 1) ++ [(⟨lo, hi', du, ev, cr⟩ : Tk)]).length + (i - (q + 1))) * 40 ≤ 140737488355328 := by rw [pl]; omega
            have pn : ((out.drop (q + 1)).flatMap Tk.cells).length = (i - (q + 1)) * 5 := by rw [cells_length, List.length_drop, ← HL2.out]
            have PL := Lib.hid pl
            have NL1 := Lib.hid nl1
            have PN := Lib.hid pn
            clear pl nl1 pn
            by_cases hcq : cc = (q + 1)
            · have hcq2 := hcq.symm
              clear hcq
              subst hcq2
              have HZ : Hid (i - (q + 1) = 0) := by show _ = _; omega
              have PZ : Hid (((out.drop (q + 1)).flatMap Tk.cells).length = 0 * 5) := by show _ = _; rw [PN.out, HZ.out]
              have pz1 : (out.take (q + 1) ++ [(⟨lo, hi', du, ev, cr⟩ : Tk)]).length + 0 ≤ maxLen := by omega
              have pz2 : ((out.take (q + 1) ++ [(⟨lo, hi', du, ev, cr⟩ : Tk)]).length + 0) * 40 ≤ 140737488355328 := by rw [HZ.out] at pb2; exact pb2
              go_wp2_with (first
                | (at_builtin
                   refine wpList_append_own _ rfl (.tmp 36) (.tmp 39) 23 rfl (w'.heap.size) 54 i0 _ 5 40 Try.underlying23 hi hz0 hz1 hz2 rfl (by decide) _ 0 [] rfl (Own.empty w') ⟨gg, 0, none⟩ (q + 1) (q + 1) ((out.take (q + 1)).flatMap Tk.cells) rfl NL1.out (HN1.out _) (cells_one _) nb1 nb2 (by simp) ?_
                   intro v1 w5 hown1 hgrow1 _
                   have hsz5 : w'.heap.size ≤ w5.heap.size := by have h := hgrow1.size; rw [World.size_alloc] at h; omega
                   have HX1 : Hid (Own w5 w'.heap.size v1 (out.take (q + 1))) := own_first (by rw [List.length_take, ← HL2.out]; omega) hown1
                   have HB5 := Lib.hid ((bl_alloc HBW.out (.cells #[] 54)).grown hgrow1 (by rw [World.size_alloc]; omega) (fun x e => by have e' : some w'.heap.size = some x := e; injection e' with e'; omega))
                   have HO5 : Hid (Own w5 w.heap.size (.slice (some ⟨gg, 0, none⟩) i (q + 1)) out) := Own.kept_dn (Own.alloc HOW.out (.cells #[] 54)) hgrow1 (M := w'.heap.size) (fun x e => by have e' : some gg = some x := e; injection e' with e'; omega) (fun x e => by have e' : some w'.heap.size = some x := e; injection e' with e'; omega)
                   clear hown1 hgrow1
                   obtain ⟨c0, c1, c2, c3, c4⟩ := tk_at (H.out.below HB5.out) HTI.out)
                | (at_builtin
                   refine wpList_append_own _ rfl (.tmp 41) (.tmp 46) 23 rfl (w'.heap.size) 54 i0 _ 5 40 Try.underlying23 hi hz0 hz1 hz2 rfl (by decide) v1 (out.take (q + 1)).length ((out.take (q + 1)).flatMap Tk.cells) rfl (World.ownsRow.alloc HX1.out _) ⟨w5.heap.size, 0, none⟩ 1 1 (Tk.cells ⟨lo, hi', du, ev, cr⟩) rfl rfl (cell_new5 _ ⟨lo, hi', du, ev, cr⟩ _) (by intro u hu; exact cells_one [⟨lo, hi', du, ev, cr⟩] u (by simpa using hu)) mb1 mb2 (by simp; omega) ?_
                   intro v2 w6 hown2 hgrow2 hiff2
                   have hsz6 : w'.heap.size ≤ w6.heap.size := by have h := hgrow2.size; rw [World.size_alloc] at h; omega
                   have HX2 := Lib.hid (Own.snoc hown2)
                   have HB6 := Lib.hid ((bl_alloc HB5.out _).grown hgrow2 (by rw [World.size_alloc]; omega) (fun x e => by have := (World.ownsRow.lt HX1.out x e).1; omega))
                   have HO6 : Hid (Own w6 w.heap.size (.slice (some ⟨gg, 0, none⟩) i (q + 1)) out) := Own.kept_dn (Own.alloc HO5.out _) hgrow2 (M := w'.heap.size) (fun x e => by have e' : some gg = some x := e; injection e' with e'; omega) (fun x e => (World.ownsRow.lt HX1.out x e).1)
                   have HNN2 : Hid (v2 ≠ .slice none 0 0) := fun e => by have := (hiff2.1 e).2; omega
                   have HN4 := Lib.hid (drop_at HO6.out HL2.out (⟨gg, 0, none⟩) (.inl rfl) (by omega))
                   clear hown2 hgrow2 hiff2 c0 c1 c2 c3 c4)
                | (at_builtin
                   refine wpList_append_own _ rfl (.tmp 48) (.tmp 51) 23 rfl (w'.heap.size) 54 i0 _ 5 40 Try.underlying23 hi hz0 hz1 hz2 rfl (by decide) v2 (out.take (q + 1) ++ [(⟨lo, hi', du, ev, cr⟩ : Tk)]).length ((out.take (q + 1) ++ [(⟨lo, hi', du, ev, cr⟩ : Tk)]).flatMap Tk.cells) rfl HX2.out ⟨gg, 0, none⟩ 0 _ ((out.drop (q + 1)).flatMap Tk.cells) rfl PZ.out HN4.out (cells_one _) pz1 pz2 (by omega) ?_
                   intro v3 w7 hown3 hgrow3 hiff3
                   have HX3 : Hid (Own w7 w.heap.size v3 (insB ⟨lo, hi', du, ev, cr⟩ out)) := own_last HL2.out hlast.out hszW (by rw [HZ.out]; exact hown3)
                   have HB7 := Lib.hid (HB6.out.grown hgrow3 HB6.out.size (fun x e => by have := (World.ownsRow.lt HX2.out x e).1; omega))
                   have HNN3 : Hid (v3 ≠ .slice none 0 0) := fun e => HNN2.out (hiff3.1 e).1
                   clear hown3 hgrow3 hiff3))
              obtain ⟨g3, c3, hv3⟩ := own_form HX3.out HNN3.out
              have HV3 := Lib.hid hv3
              clear hv3
              go_roundw
              case rel => exact ⟨i + 1, by omega, by go_num, g3, c3, by rw [HV3.out, insB_len, ← HL2.out], by rw [HTK.out]; have hx := HX3.out; rw [HV3.out, insB_len, ← HL2.out] at hx; exact hx, HB7.out⟩
              case measure => simp [intOf]; omega
            · have HCQ := Lib.hid hcq
              go_wp2_with (first
                | (at_builtin
                   refine wpList_append_own _ rfl (.tmp 36) (.tmp 39) 23 rfl (w'.heap.size) 54 i0 _ 5 40 Try.underlying23 hi hz0 hz1 hz2 rfl (by decide) _ 0 [] rfl (Own.empty w') ⟨gg, 0, none⟩ (q + 1) cc ((out.take (q + 1)).flatMap Tk.cells) rfl NL1.out (HN1.out _) (cells_one _) nb1 nb2 (by simp) ?_
                   intro v1 w5 hown1 hgrow1 _
                   have hsz5 : w'.heap.size ≤ w5.heap.size := by have h := hgrow1.size; rw [World.size_alloc] at h; omega
                   have HX1 : Hid (Own w5 w'.heap.size v1 (out.take (q + 1))) := own_first (by rw [List.length_take, ← HL2.out]; omega) hown1
                   have HB5 := Lib.hid ((bl_alloc HBW.out (.cells #[] 54)).grown hgrow1 (by rw [World.size_alloc]; omega) (fun x e => by have e' : some w'.heap.size = some x := e; injection e' with e'; omega))
                   have HO5 : Hid (Own w5 w.heap.size (.slice (some ⟨gg, 0, none⟩) i cc) out) := Own.kept_dn (Own.alloc HOW.out (.cells #[] 54)) hgrow1 (M := w'.heap.size) (fun x e => by have e' : some gg = some x := e; injection e' with e'; omega) (fun x e => by have e' : some w'.heap.size = some x := e; injection e' with e'; omega)
                   clear hown1 hgrow1
                   obtain ⟨c0, c1, c2, c3, c4⟩ := tk_at (H.out.below HB5.out) HTI.out)
                | (at_builtin
                   refine wpList_append_own _ rfl (.tmp 41) (.tmp 46) 23 rfl (w'.heap.size) 54 i0 _ 5 40 Try.underlying23 hi hz0 hz1 hz2 rfl (by decide) v1 (out.take (q + 1)).length ((out.take (q + 1)).flatMap Tk.cells) rfl (World.ownsRow.alloc HX1.out _) ⟨w5.heap.size, 0, none⟩ 1 1 (Tk.cells ⟨lo, hi', du, ev, cr⟩) rfl rfl (cell_new5 _ ⟨lo, hi', du, ev, cr⟩ _) (by intro u hu; exact cells_one [⟨lo, hi', du, ev, cr⟩] u (by simpa using hu)) mb1 mb2 (by simp; omega) ?_
                   intro v2 w6 hown2 hgrow2 hiff2
                   have hsz6 : w'.heap.size ≤ w6.heap.size := by have h := hgrow2.size; rw [World.size_alloc] at h; omega
                   have HX2 := Lib.hid (Own.snoc hown2)
                   have HB6 := Lib.hid ((bl_alloc HB5.out _).grown hgrow2 (by rw [World.size_alloc]; omega) (fun x e => by have := (World.ownsRow.lt HX1.out x e).1; omega))
                   have HO6 : Hid (Own w6 w.heap.size (.slice (some ⟨gg, 0, none⟩) i cc) out) := Own.kept_dn (Own.alloc HO5.out _) hgrow2 (M := w'.heap.size) (fun x e => by have e' : some gg = some x := e; injection e' with e'; omega) (fun x e => (World.ownsRow.lt HX1.out x e).1)
                   have HNN2 : Hid (v2 ≠ .slice none 0 0) := fun e => by have := (hiff2.1 e).2; omega
                   have HN4 := Lib.hid (drop_at HO6.out HL2.out (⟨gg, (q + 1) * 5, none⟩) (.inr rfl) (by omega))
                   clear hown2 hgrow2 hiff2 c0 c1 c2 c3 c4)
                | (at_builtin
                   refine wpList_append_own _ rfl (.tmp 48) (.tmp 51) 23 rfl (w'.heap.size) 54 i0 _ 5 40 Try.underlying23 hi hz0 hz1 hz2 rfl (by decide) v2 (out.take (q + 1) ++ [(⟨lo, hi', du, ev, cr⟩ : Tk)]).length ((out.take (q + 1) ++ [(⟨lo, hi', du, ev, cr⟩ : Tk)]).flatMap Tk.cells) rfl HX2.out ⟨gg, (q + 1) * 5, none⟩ (i - (q + 1)) _ ((out.drop (q + 1)).flatMap Tk.cells) rfl PN.out HN4.out (cells_one _) pb1 pb2 (by omega) ?_
                   intro v3 w7 hown3 hgrow3 hiff3
                   have HX3 : Hid (Own w7 w.heap.size v3 (insB ⟨lo, hi', du, ev, cr⟩ out)) := own_last HL2.out hlast.out hszW hown3
                   have HB7 := Lib.hid (HB6.out.grown hgrow3 HB6.out.size (fun x e => by have := (World.ownsRow.lt HX2.out x e).1; omega))
                   have HNN3 : Hid (v3 ≠ .slice none 0 0) := fun e => HNN2.out (hiff3.1 e).1
                   clear hown3 hgrow3 hiff3))
              obtain ⟨g3, c3, hv3⟩ := own_form HX3.out HNN3.out
              have HV3 := Lib.hid hv3
              clear hv3
              go_roundw
              case rel => exact ⟨i + 1, by omega, by go_num, g3, c3, by rw [HV3.out, insB_len, ← HL2.out], by rw [HTK.out]; have hx := HX3.out; rw [HV3.out, insB_len, ← HL2.out] at hx; exact hx, HB7.out⟩
              case measure => simp [intOf]; omega
          · have hpos2 : Hid (posB ⟨lo, hi', du, ev, cr⟩ out q = posB ⟨lo, hi', du, ev, cr⟩ out i) := by show _ = _; rw [← hpos.out]; exact (posB_yes (t := ⟨lo, hi', du, ev, cr⟩) HU.out hv).symm
            go_wp2
            go_roundw
            case rel => exact ⟨q, by omega, rfl, hpos2, HB.out, HO.out⟩
            case measure => simp [intOf] <;> omega
    · obtain rfl : i = n := by omega
      go_wp2
      go_ret
      exact lsRes_of HO0.out HB0.out (by rw [List.take_of_length_le (by rw [HL.out]; omega)]; simp [sortOf, HS.out])
end

section
/- Contracts of what the reference draws as arguments of chapter 3's functions; nothing that was there is written. -/
open Go.RowKit
set_option linter.unusedVariables false

def DrewLI (m : Nat) (w : World) (e : Ending) (w' : World) : Prop :=
  ∃ (A : Option Addr) (c : Nat) (ts : List Tk) (z : Int), e = .returned (.tuple #[.slice A ts.length c, .int .i64 z]) ∧ ts.length ≤ m ∧ -1 ≤ z ∧ z ≤ 5 ∧ Own w' w.heap.size (.slice A ts.length c) ts ∧ Below w.heap.size w w'
theorem sortOf_le (ts : List Tk) : (sortOf ts).length ≤ ts.length := by
  unfold sortOf
  split
  · rw [sortL_len]; exact Nat.le_refl _
  · simp
def DrewL1 (m : Nat) (w : World) (e : Ending) (w' : World) : Prop :=
  ∃ (A : Option Addr) (c : Nat) (ts : List Tk), e = .returned (.slice A ts.length c) ∧ ts.length ≤ m ∧ Own w' w.heap.size (.slice A ts.length c) ts ∧ Below w.heap.size w w'
end

end Go.Proofs.Ytpalcnhceffcmaa
