/- Contracts of SortDue, in the program and in the reference: both return the tasks sorted by insertion from behind, in memory of their own. -/
import Derived.Test.YtbaecbibkmdbiaaDoorInsert
import Derived.Test.YtbaecbibkmdbiaaDoorCrit
import Derived.Test.YtbaecbibkmdbiaaDoorLawCrit
import Derived.Deep.RegionHeld3
namespace Go.Proofs.YtbaecbibkmdbiaaDoor
open Go.RowKit

/-- Whether one task goes before another one. -/
def beforeB (du ev du' ev' : Int) : Bool := if du = du' then decide (ev < ev') else decide (du < du')
def Tk.bef (t u : Tk) : Bool := beforeB t.du t.ev u.du u.ev

theorem iBefore_any (lo hi du ev : Int) (cr : Bool) (lo' hi' du' ev' : Int) (cr' : Bool) (w : World) :
    Calls Tryd.prog 44 #[.agg #[.int .i64 lo, .int .i64 hi, .int .i64 du, .int .i64 ev, .bool cr], .agg #[.int .i64 lo', .int .i64 hi', .int .i64 du', .int .i64 ev', .bool cr']] w fun e w' =>
      e = .returned (.bool (beforeB du ev du' ev')) ∧ Below w.heap.size w w' := by
  by_cases h : du = du'
  · subst h
    go_enter Tryd.func44, Tryd.ntmps44
    go_wp2
    go_ret
    exact ⟨by simp [beforeB], bl_alloc (bl_alloc (Below.refl _ _) _) _⟩
  · have h' : (du != du') = true := by simpa using h
    have H := Lib.hid h
    clear h
    go_enter Tryd.func44, Tryd.ntmps44
    go_wp2
    go_ret
    exact ⟨by simp [beforeB, H.out], bl_alloc (bl_alloc (Below.refl _ _) _) _⟩

/-- The place of t in a list, looked for from place p downwards. -/
def posB (t : Tk) (out : List Tk) : Nat → Nat
  | 0 => 0
  | p + 1 => match out[p]? with
    | some u => if t.bef u then posB t out p else p + 1
    | none => p + 1
theorem posB_le (t : Tk) (out : List Tk) : ∀ p, posB t out p ≤ p
  | 0 => Nat.le_refl _
  | p + 1 => by
    unfold posB
    split
    · split
      · exact Nat.le_succ_of_le (posB_le t out p)
      · exact Nat.le_refl _
    · exact Nat.le_refl _
def insB (t : Tk) (out : List Tk) : List Tk := out.take (posB t out out.length) ++ t :: out.drop (posB t out out.length)
def sortL (ts : List Tk) : List Tk := ts.foldl (fun out t => insB t out) []
def sortOf (ts : List Tk) : List Tk := if setB ts then sortL ts else []
theorem insB_len (t : Tk) (out : List Tk) : (insB t out).length = out.length + 1 := by
  have := posB_le t out out.length
  simp [insB]; omega
theorem sortL_take {ts : List Tk} {k : Nat} {t : Tk} (h : ts[k]? = some t) : sortL (ts.take (k + 1)) = insB t (sortL (ts.take k)) := by
  obtain ⟨hk, rfl⟩ := List.getElem?_eq_some_iff.1 h
  rw [List.take_succ_eq_append_getElem hk]
  simp only [sortL, List.foldl_append, List.foldl_cons, List.foldl_nil]
theorem sortL_len (ts : List Tk) : (sortL ts).length = ts.length := by
  have : ∀ (ts out : List Tk), (ts.foldl (fun out t => insB t out) out).length = out.length + ts.length := by
    intro ts
    induction ts with
    | nil => intro out; rfl
    | cons t ts ih => intro out; rw [List.foldl_cons, ih, insB_len, List.length_cons]; omega
  have := this ts []
  simpa [sortL] using this

theorem insert_any (w : World) (B g n N i vb : Nat) (ts : List Tk) (t : Tk) (h : Own w B (.slice (some ⟨g, 0, none⟩) n N) ts) (hN : n + 1 ≤ N) (hi : i ≤ n) (hne : vb ≠ g)
    (hv : Blk w vb 40 #[.int .i64 t.lo, .int .i64 t.hi, .int .i64 t.du, .int .i64 t.ev, .bool t.cr]) (hn5 : N ≤ 1048576) :
    Calls Tryd.prog 57 #[.slice (some ⟨g, 0, none⟩) n N, .int .i64 i, .slice (some ⟨vb, 0, none⟩) 1 1] w (InsRes g N B (ts.take i ++ t :: ts.drop i) w) := by
  by_cases he : i = n
  · subst he
    have e : ts.take i ++ t :: ts.drop i = ts ++ [t] := by
      have hl := h.reads.1
      rw [List.take_of_length_le (by omega), List.drop_eq_nil_of_le (by omega)]
    rw [e]
    exact insert_end w B g i N vb ts t h hN hv hn5
  · exact insert_shift w B g n N i vb ts t h hN (by omega) hne hv hn5

theorem ret_slice {A : Option Addr} {a b c : Nat} (h : a = b) : Ending.returned (.slice A a c) = .returned (.slice A b c) := by rw [h]

theorem gb_of_below {a w : World} (h : Below a.heap.size a w) (row : Option Nat) : a.grownBy w row := ⟨h.os, h.tape, h.output, h.size, fun i hi _ => h.block i hi⟩

theorem posB_yes {t u : Tk} {out : List Tk} {q : Nat} (h : out[q]? = some u) (hb : t.bef u = true) : posB t out (q + 1) = posB t out q := by
  show (match out[q]? with | some u => if t.bef u then posB t out q else q + 1 | none => q + 1) = _
  rw [h]; simp [hb]
theorem posB_no {t u : Tk} {out : List Tk} {q : Nat} (h : out[q]? = some u) (hb : t.bef u = false) : posB t out (q + 1) = q + 1 := by
  show (match out[q]? with | some u => if t.bef u then posB t out q else q + 1 | none => q + 1) = _
  rw [h]; simp [hb]

set_option maxHeartbeats 2000000 in
theorem insertInOrder_any (w : World) (B g n N : Nat) (out : List Tk) (t : Tk) (h : Own w B (.slice (some ⟨g, 0, none⟩) n N) out) (hN : n + 1 ≤ N) (hN5 : N ≤ 1048576) :
    Calls Tryd.prog 43 #[.slice (some ⟨g, 0, none⟩) n N, .agg #[.int .i64 t.lo, .int .i64 t.hi, .int .i64 t.du, .int .i64 t.ev, .bool t.cr], .func (.func 44) #[] #[]] w (InsRes g N B (insB t out) w) := by
  obtain ⟨lo, hi', du, ev, cr⟩ := t
  have H := Lib.hid h
  have hgl : g < w.heap.size := (World.ownsRow.lt h g rfl).2
  have HL := Lib.hid h.reads.1
  clear h
  go_enter Tryd.func43, Tryd.ntmps43
  go_wp2
  go_loopw [7] (fun p wr => ∃ q : Nat, q ≤ n ∧ p = .int .i64 q ∧ Hid (posB ⟨lo, hi', du, ev, cr⟩ out q = posB ⟨lo, hi', du, ev, cr⟩ out n) ∧ Below w.heap.size w wr ∧ Blk wr w.heap.size 40 #[.int .i64 lo, .int .i64 hi', .int .i64 du, .int .i64 ev, .bool cr]) (fun p _ => (intOf p).toNat)
  case atStart => exact ⟨n, Nat.le_refl _, rfl, by show _ = _; rfl, bl_alloc (Below.refl _ _) _, Blk.new w _ _⟩
  case round =>
    obtain ⟨p, hp, rfl, hpos, hb, hblk⟩ := hrel
    have HB := Lib.hid hb
    have HK := Lib.hid hblk
    have hsz := hblk.lt
    clear hb hblk
    rcases p with _ | q
    · have cB := HK.out.cell
      go_wp2
      go_quiet (fail)
      have HOr : Hid (Own (wr.drewN nq) B (.slice (some ⟨g, 0, none⟩) n N) out) := H.out.below (bl_drewN HB.out _)
      go_wp2_with fail
      refine (insert_any _ B g n N 0 (wr.heap.size) out ⟨lo, hi', du, ev, cr⟩ (Own.alloc (w := (wr.drewN nq)) HOr.out _) hN (by omega) (by omega) (Blk.new (wr.drewN nq) _ _) hN5).mono ?_
      rintro e w5 ⟨rfl, ho5, hg5⟩
      have hlast : Hid (posB ⟨lo, hi', du, ev, cr⟩ out out.length = 0) := by show _ = _; rw [← HL.out, ← hpos.out]; rfl
      go_wp2
      go_ret
      refine ⟨?_, ?_, ?_⟩
      · show Ending.returned _ = _
        unfold insB
        rw [hlast.out]
        rfl
      · unfold insB
        rw [hlast.out]
        exact ho5
      · exact gb_trans (gb_alloc (gb_of_below (show Below w.heap.size w (wr.drewN nq) from ⟨HB.out.os, HB.out.tape, HB.out.output, HB.out.size, HB.out.block⟩) (some g)) _) hg5 (fun x e => .inl (by injection e with e; exact e.symm))
    · obtain ⟨u, hu⟩ : ∃ u, out[q]? = some u := ⟨out[q]'(by rw [← HL.out]; omega), List.getElem?_eq_getElem _⟩
      have hcB := HK.out.cell
      obtain ⟨b, o, eA, hbl, c0, c1, c2, c3, c4⟩ := (H.out.below HB.out).reads.2.at_ q u hu
      injection eA with eA
      injection eA with eA1 eA2
      subst eA1 eA2
      simp only [Nat.zero_add] at c0 c1 c2 c3 c4
      have b0 : wr.cell? ⟨w.heap.size, 0, none⟩ = some (.int .i64 lo) := hcB 0
      have b1 : wr.cell? ⟨w.heap.size, 1, none⟩ = some (.int .i64 hi') := hcB 1
      have b2 : wr.cell? ⟨w.heap.size, 2, none⟩ = some (.int .i64 du) := hcB 2
      have b3 : wr.cell? ⟨w.heap.size, 3, none⟩ = some (.int .i64 ev) := hcB 3
      have b4 : wr.cell? ⟨w.heap.size, 4, none⟩ = some (.bool cr) := hcB 4
      clear hcB
      obtain ⟨lo2, hi2, du2, ev2, cr2⟩ := u
      dsimp only at c0 c1 c2 c3 c4
      have HU := Lib.hid hu
      clear hu
      have hgr : g < wr.heap.size := by omega
      have i1 : (0 : Int) ≤ (q : Int) := by omega
      have i2 : (q : Int) < (n : Int) := by omega
      have i3 : (0 : Int) < (q : Int) + 1 := by omega
      have k1 : IntKind.i64.wrap ((q : Int) + 1 - 1) = (q : Int) := by rw [show (q : Int) + 1 - 1 = q by omega]; exact IntWalk.i64_in _ (by omega)
      have k2 : IntKind.i64.wrap (q : Int) = (q : Int) := IntWalk.i64_in _ (by clear k1; omega)
      go_wp2
      go_region_held3 (fun W => (W.cell? ⟨w.heap.size, 0, none⟩ = some (.int .i64 lo) ∧ W.cell? ⟨w.heap.size, 1, none⟩ = some (.int .i64 hi') ∧ W.cell? ⟨w.heap.size, 2, none⟩ = some (.int .i64 du) ∧ W.cell? ⟨w.heap.size, 3, none⟩ = some (.int .i64 ev) ∧ W.cell? ⟨w.heap.size, 4, none⟩ = some (.bool cr)) ∧ W.cell? ⟨g, q * 5, none⟩ = some (.int .i64 lo2) ∧ W.cell? ⟨g, q * 5 + 1, none⟩ = some (.int .i64 hi2) ∧ W.cell? ⟨g, q * 5 + 2, none⟩ = some (.int .i64 du2) ∧ W.cell? ⟨g, q * 5 + 3, none⟩ = some (.int .i64 ev2) ∧ W.cell? ⟨g, q * 5 + 4, none⟩ = some (.bool cr2)) (first | assumption | (simp [go_sem, *]; done))
        ((go_at_call 44; refine (iBefore_any lo hi' du ev cr lo2 hi2 du2 ev2 cr2 _).mono ?_; rintro e w' ⟨rfl, hb⟩; have c0' := (hb.cell (p := ⟨g, q * 5, none⟩) hgr).trans c0; have c1' := (hb.cell (p := ⟨g, q * 5 + 1, none⟩) hgr).trans c1; have c2' := (hb.cell (p := ⟨g, q * 5 + 2, none⟩) hgr).trans c2; have c3' := (hb.cell (p := ⟨g, q * 5 + 3, none⟩) hgr).trans c3; have c4' := (hb.cell (p := ⟨g, q * 5 + 4, none⟩) hgr).trans c4; have b0' := (hb.cell (p := ⟨w.heap.size, 0, none⟩) hsz).trans b0; have b1' := (hb.cell (p := ⟨w.heap.size, 1, none⟩) hsz).trans b1; have b2' := (hb.cell (p := ⟨w.heap.size, 2, none⟩) hsz).trans b2; have b3' := (hb.cell (p := ⟨w.heap.size, 3, none⟩) hsz).trans b3; have b4' := (hb.cell (p := ⟨w.heap.size, 4, none⟩) hsz).trans b4; have HBW : Hid (Below wr.heap.size wr w') := ⟨hb.os, hb.tape, hb.output, hb.size, hb.block⟩; clear hb))
      clear k1 k2 c0 c1 c2 c3 c4 b0 b1 b2 b3 b4 c0' c1' c2' c3' c4'
      have HB' := Lib.hid (HB.out.trans (HBW.out.mono (Nat.le_of_lt hsz)))
      have HK' := Lib.hid (HK.out.below HBW.out hsz)
      clear HB HK
      have HB := HB'
      have HK := HK'
      clear HB' HK'
      have hszw := HK.out.lt
      cases hv : beforeB du ev du2 ev2
      · have hlast0 : Hid (posB ⟨lo, hi', du, ev, cr⟩ out n = q + 1) := by show _ = _; rw [← hpos.out]; exact posB_no HU.out hv
        have HOr : Hid (Own w' B (.slice (some ⟨g, 0, none⟩) n N) out) := H.out.below HB.out
        go_wp2_with fail
        refine (insert_any _ B g n N (q + 1) (w'.heap.size) out ⟨lo, hi', du, ev, cr⟩ (Own.alloc (w := w') HOr.out _) hN (by omega) (by omega) (Blk.new w' _ _) hN5).mono ?_
        rintro e w5 ⟨rfl, ho5, hg5⟩
        have hlast : Hid (posB ⟨lo, hi', du, ev, cr⟩ out out.length = q + 1) := by show _ = _; rw [← HL.out]; exact hlast0.out
        go_wp2
        go_ret
        refine ⟨?_, ?_, ?_⟩
        · unfold insB
          rw [hlast.out]
          exact ret_slice (by simp)
        · unfold insB
          rw [hlast.out]
          exact ho5
        · exact gb_trans (gb_alloc (gb_of_below HB.out (some g)) _) hg5 (fun x e => .inl (by injection e with e; exact e.symm))
      · have hpos2 : Hid (posB ⟨lo, hi', du, ev, cr⟩ out q = posB ⟨lo, hi', du, ev, cr⟩ out n) := by show _ = _; rw [← hpos.out]; exact (posB_yes (t := ⟨lo, hi', du, ev, cr⟩) HU.out hv).symm
        go_wp2
        go_roundw
        case rel => exact ⟨q, by omega, rfl, hpos2, HB.out, HK.out⟩
        case measure => simp [intOf] <;> omega


end Go.Proofs.YtbaecbibkmdbiaaDoor
