import Derived.Test.YtgponahmkjohiabGreatDoorT1QHk
namespace Go.Proofs.YtgponahmkjohiabGreatDoor
open Go.RowKit
set_option linter.unusedVariables false
theorem Gr2.blk {w w' : World} {hb x : Nat} {row : Option Nat} {t : TypeId} {cs : Array Value} (h : Gr2 w w' hb row) (hx : Blk w x t cs) (h1 : x ≠ hb) (h2 : some x ≠ row) : Blk w' x t cs := (h.block x hx.lt h1 h2).trans hx
theorem OwnJ.less_ {w : World} {B g n cap : Nat} {js : List Jb} (h : OwnJ w B (.slice (some ⟨g, 0, none⟩) (n + 1) cap) js) : OwnJ w B (.slice (some ⟨g, 0, none⟩) n cap) (js.take n) := by
  obtain ⟨hnl, hBg, cur, hcur, hnN, hNm, hcs, htk⟩ := jown_block h
  have hl : (js.take n).length = n := by rw [List.length_take]; omega
  have h2 := jown_of_block (ts := js.take n) (N := cap) (cur := cur) hBg hcur (by rw [hl]; omega) hNm hcs (by
    rw [hl, ← jtake_cells, ← htk, List.take_take, Nat.min_eq_left (by omega)])
  rwa [hl] at h2
theorem OwnJ.setApart {w : World} {B g n c : Nat} {ts : List Jb} (h : OwnJ w B (.slice (some ⟨g, 0, none⟩) n c) ts) {a : Addr} (ha : g ≠ a.block) (u : Value) : OwnJ (w.setCell a u) B (.slice (some ⟨g, 0, none⟩) n c) ts :=
  ⟨h.1, by
    rcases h.2 with h2 | ⟨g', cap, cur, e, hb, hg, rest⟩
    · exact .inl h2
    · have e2 := e
      injection e2 with e1 _ _
      injection e1 with e1
      injection e1 with e1 _ _
      subst e1
      exact .inr ⟨g, cap, cur, e, hb, (Below.heap_setCell w a u g ha).trans hg, rest⟩⟩
theorem Hp.setApart {w : World} {B hb og g n c : Nat} {hs : List Jb} (h : Hp w B hb og hs (.slice (some ⟨g, 0, none⟩) n c)) {a : Addr} (h1 : hb ≠ a.block) (h2 : og ≠ a.block) (h3 : g ≠ a.block) (u : Value) : Hp (w.setCell a u) B hb og hs (.slice (some ⟨g, 0, none⟩) n c) :=
  ⟨h.blk.far h1 u, h.own.setApart h3 u, h.lt, h.ord.setFar h2 u, h.ogB, h.hog⟩
theorem Gr2.setNew {w w' : World} {hb : Nat} {row : Option Nat} (h : Gr2 w w' hb row) {a : Addr} (ha : w.heap.size ≤ a.block) (u : Value) : Gr2 w (w'.setCell a u) hb row :=
  ⟨h.os, h.tape, h.output, by simp [World.setCell]; exact h.size, fun k hk h1 h2 => (Below.heap_setCell w' a u k (by omega)).trans (h.block k hk h1 h2)⟩
/-- The first job of a heap, and what is left. -/
def PopRes (B hb og : Nat) (hs : List Jb) (g cap : Nat) (j : Jb) (w : World) (e : Ending) (w' : World) : Prop :=
  e = .returned j.val ∧ ∃ hs' : List Jb, Hp w' B hb og hs' (.slice (some ⟨g, 0, none⟩) hs'.length cap) ∧ heapP hs' ∧ (j :: hs').Perm hs ∧ Gr2 w w' hb (some g)
set_option maxRecDepth 100000 in
set_option maxHeartbeats 8000000 in
theorem iPop_is (w : World) (B hb og : Nat) (hs : List Jb) (g cap n : Nat) (hn : hs.length = n + 1) (h : Hp w B hb og hs (.slice (some ⟨g, 0, none⟩) (n + 1) cap)) (hp : heapP hs) (hl : n ≤ 60) (j : Jb) (hj : hs[0]? = some j) :
    Calls Tryz.prog 58 #[.pointer (some ⟨hb, 0, none⟩)] w (PopRes B hb og hs g cap j w) := by
  have HH := Lib.hid h
  have HP := Lib.hid hp
  have HN := Lib.hid hn
  have HJ := Lib.hid hj
  obtain ⟨y, hy⟩ : ∃ y, hs[n]? = some y := ⟨hs[n]'(by omega), List.getElem?_eq_getElem _⟩
  have HY := Lib.hid hy
  obtain ⟨_, d0, d1, d2⟩ := h.own.reads.2.get hj
  have hgl : g < w.heap.size := (World.ownsRow.lt h.own g rfl).2
  have hgB : B ≤ g := (World.ownsRow.lt h.own g rfl).1
  have hbl : hb < w.heap.size := h.blk.lt
  have hbB := h.lt
  have hnc : n + 1 ≤ cap := by
    have h1 := h.own
    have e := h1.reads.1
    rw [e] at h1 ⊢
    exact h1.le
  have e0 := h.blk.cell 0
  obtain ⟨ta, tm, ne⟩ := j
  dsimp only at d0 d1 d2
  simp only [Nat.zero_add, Nat.zero_mul] at d0 d1 d2
  have c0 := (World.cell?_alloc_lt w (.cells #[.int .i64 0, .int .i64 0, .int .i64 0] 46) ⟨hb, 0, none⟩ hbl).trans e0
  have c1 := (World.cell?_alloc_lt w (.cells #[.int .i64 0, .int .i64 0, .int .i64 0] 46) ⟨g, 0, none⟩ hgl).trans d0
  have c2 := (World.cell?_alloc_lt w (.cells #[.int .i64 0, .int .i64 0, .int .i64 0] 46) ⟨g, 1, none⟩ hgl).trans d1
  have c3 := (World.cell?_alloc_lt w (.cells #[.int .i64 0, .int .i64 0, .int .i64 0] 46) ⟨g, 2, none⟩ hgl).trans d2
  have b0 := (World.cell?_alloc_lt (w.alloc (.cells #[.int .i64 0, .int .i64 0, .int .i64 0] 46)) (.cells #[.int .i64 ta, .int .i64 tm, .int .i64 ne] 46) ⟨hb, 0, none⟩ (by simp; omega)).trans c0
  have b1 := (World.cell?_alloc_lt (w.alloc (.cells #[.int .i64 0, .int .i64 0, .int .i64 0] 46)) (.cells #[.int .i64 ta, .int .i64 tm, .int .i64 ne] 46) ⟨g, 0, none⟩ (by simp; omega)).trans c1
  have b2 := (World.cell?_alloc_lt (w.alloc (.cells #[.int .i64 0, .int .i64 0, .int .i64 0] 46)) (.cells #[.int .i64 ta, .int .i64 tm, .int .i64 ne] 46) ⟨g, 1, none⟩ (by simp; omega)).trans c2
  have b3 := (World.cell?_alloc_lt (w.alloc (.cells #[.int .i64 0, .int .i64 0, .int .i64 0] 46)) (.cells #[.int .i64 ta, .int .i64 tm, .int .i64 ne] 46) ⟨g, 2, none⟩ (by simp; omega)).trans c3
  have n0 : (0 : Int) < (n : Int) + 1 := by omega
  have kw : IntKind.i64.wrap ((n : Int) + 1 - 1) = (n : Int) := by rw [IntWalk.i64_in _ (by omega)]; omega
  have kw2 : IntKind.i64.wrap (n : Int) = (n : Int) := IntWalk.i64_in _ (by omega)
  have n1 : (n : Int) ≤ (cap : Int) := by omega
  have n2 : n ≤ cap := by omega
  clear h hp hn hj hy d0 d1 d2 e0
  unfold Jb.val at *
  go_enter Tryz.func58, Tryz.ntmps58
  go_wp2
  go_region_held3 (fun W => W.cell? ⟨hb, 0, none⟩ = some (.slice (some ⟨g, 0, none⟩) (n + 1) cap) ∧ W.cell? ⟨g, 0, none⟩ = some (.int .i64 ta) ∧ W.cell? ⟨g, 1, none⟩ = some (.int .i64 tm) ∧ W.cell? ⟨g, 2, none⟩ = some (.int .i64 ne)) (first | exact ⟨c0, c1, c2, c3⟩ | exact ⟨b0, b1, b2, b3⟩ | assumption | (simp [go_sem, *]; done)) (fail)
  have HW1 := Lib.hid (show Below w.heap.size w ((w.alloc (.cells #[.int .i64 0, .int .i64 0, .int .i64 0] 46)).alloc (.cells #[.int .i64 ta, .int .i64 tm, .int .i64 ne] 46)).drew from Below.drew (bl_alloc (bl_alloc (Below.refl _ _) _) _))
  have BR1 : Hid (Blk ((w.alloc (.cells #[.int .i64 0, .int .i64 0, .int .i64 0] 46)).alloc (.cells #[.int .i64 ta, .int .i64 tm, .int .i64 ne] 46)).drew w.heap.size 46 #[.int .i64 0, .int .i64 0, .int .i64 0]) := Lib.hid ((Blk.new w 46 #[.int .i64 0, .int .i64 0, .int .i64 0]).alloc _)
  have BF1 : Hid (Blk ((w.alloc (.cells #[.int .i64 0, .int .i64 0, .int .i64 0] 46)).alloc (.cells #[.int .i64 ta, .int .i64 tm, .int .i64 ne] 46)).drew (w.heap.size + 1) 46 #[.int .i64 ta, .int .i64 tm, .int .i64 ne]) := Lib.hid (by
    have h1 := Blk.new (w.alloc (.cells #[.int .i64 0, .int .i64 0, .int .i64 0] 46)) 46 #[.int .i64 ta, .int .i64 tm, .int .i64 ne]
    rw [World.size_alloc] at h1
    exact h1)
  have HH1 := Lib.hid (HH.out.below HW1.out)
  have hs1 : w.heap.size + 1 < ((w.alloc (.cells #[.int .i64 0, .int .i64 0, .int .i64 0] 46)).alloc (.cells #[.int .i64 ta, .int .i64 tm, .int .i64 ne] 46)).drew.heap.size := BF1.out.lt
  clear c0 c1 c2 c3 b0 b1 b2 b3
  generalize ((w.alloc (.cells #[.int .i64 0, .int .i64 0, .int .i64 0] 46)).alloc (.cells #[.int .i64 ta, .int .i64 tm, .int .i64 ne] 46)).drew = w1 at *
  go_wp2_with fail
  refine (iSwap_is _ B hb og hs (.slice (some ⟨g, 0, none⟩) (n + 1) cap) HH1.out 0 n ⟨ta, tm, ne⟩ y HJ.out HY.out).mono ?_
  rintro e w2 ⟨rfl, hh2, hg2⟩
  have HH2 := Lib.hid hh2
  have hg2' : w1.grownBy w2 (some g) := hg2
  have HG2 : Hid (Gr2 w w2 hb (some g)) := Lib.hid (Gr2.trans (Gr2.of_below HW1.out) (Gr2.of_gb hg2') (fun x e => .inl e))
  have BR2 := Lib.hid (BR1.out.grown hg2' (by intro e; injection e with e; omega))
  have BF2 := Lib.hid (BF1.out.grown hg2' (by intro e; injection e with e; omega))
  clear hh2 hg2 hg2' BR1 BF1 HH1
  have c0 := HH2.out.blk.cell 0
  have f0 := HH2.out.blk.frozen 0
  have HH3 : Hid (Hp (w2.setCell ⟨hb, 0, none⟩ (.slice (some ⟨g, 0, none⟩) n cap)) B hb og ((swapL hs 0 n ⟨ta, tm, ne⟩ y).take n) (.slice (some ⟨g, 0, none⟩) n cap)) := Lib.hid ⟨HH2.out.blk.set_ 0 _, (OwnJ.less_ HH2.out.own).setFar hbB _, hbB, HH2.out.ord.setFar HH2.out.hog _, HH2.out.ogB, HH2.out.hog⟩
  have HG3 := Lib.hid (HG2.out.set 0 (.slice (some ⟨g, 0, none⟩) n cap))
  have BR3 := Lib.hid (BR2.out.far (p := ⟨hb, 0, none⟩) (by dsimp only; omega) (.slice (some ⟨g, 0, none⟩) n cap))
  have BF3 := Lib.hid (BF2.out.far (p := ⟨hb, 0, none⟩) (by dsimp only; omega) (.slice (some ⟨g, 0, none⟩) n cap))
  have HTL := Lib.hid (show ((swapL hs 0 n ⟨ta, tm, ne⟩ y).take n).length = n by rw [List.length_take, swap_len, HN.out]; omega)
  have HDI := Lib.hid (pop_start HP.out HN.out HJ.out HY.out)
  have HPM := Lib.hid (take_swap_perm HN.out HJ.out HY.out)
  clear HH2 HG2 BR2 BF2
  go_wp2_with fail
  clear c0 f0
  refine (iSink_is _ B hb og _ g cap (by rw [HTL.out]; exact HH3.out) HDI.out (by rw [HTL.out]; omega)).mono ?_
  rintro e w4 ⟨rfl, hs', hh4, hl4, hp4, hm4, hg4⟩
  have HH4 := Lib.hid hh4
  have HP4 := Lib.hid hp4
  have HM4 := Lib.hid ((List.Perm.cons ⟨ta, tm, ne⟩ hm4).trans HPM.out)
  have HG4 := Lib.hid (Gr2.trans HG3.out hg4 (fun x e => .inl e))
  have BR4 := Lib.hid (hg4.blk BR3.out (by omega) (by intro e; injection e with e; omega))
  have BF4 := Lib.hid (hg4.blk BF3.out (by omega) (by intro e; injection e with e; omega))
  clear hh4 hl4 hp4 hm4 hg4 HG3 BR3 BF3 HH3
  have c0 := BF4.out.cell 0
  have c1 := BF4.out.cell 1
  have c2 := BF4.out.cell 2
  have r0 := BR4.out.cell 0
  have r1 := BR4.out.cell 1
  have r2 := BR4.out.cell 2
  have fr := BR4.out.frozen
  have cF := fun (s t u : Value) => (((BR4.out.set_ 0 s).set_ 1 t).set_ 2 u).cell
  go_wp2
  refine bodyPost_ret (v := .agg #[.int .i64 ta, .int .i64 tm, .int .i64 ne]) (by simp [results, Tryz.results58, go_sem, cF]) rfl ⟨rfl, hs', ?_, HP4.out, HM4.out, ?_⟩
  · repeat (refine Hp.setApart ?_ (by dsimp only; omega) (by dsimp only; have := HH4.out.ogB; omega) (by dsimp only; omega) _)
    exact HH4.out
  · repeat (refine Gr2.setNew ?_ (by dsimp only; omega) _)
    exact HG4.out
end Go.Proofs.YtgponahmkjohiabGreatDoor

namespace Go.Proofs.YtgponahmkjohiabGreatDoor
open Go.RowKit
set_option linter.unusedVariables false
theorem row_in {h : Bool} {n : Nat} : ∀ {ts : List Tk} {k i : Nat} {t : Tk}, ts[i]? = some t → (n : Int) % t.ev = 0 → (⟨((k + i : Nat) : Int), (n : Int), needOf h t⟩ : Jb) ∈ rowJ h n k ts
  | [], k, i, t, ht, hd => by simp at ht
  | u :: ts, k, 0, t, ht, hd => by
    simp at ht
    subst ht
    rw [rowJ, if_pos hd]
    simp
  | u :: ts, k, i + 1, t, ht, hd => by
    rw [rowJ]
    refine List.mem_append.2 (.inr ?_)
    have := row_in (k := k + 1) (i := i) (by simpa using ht) hd (h := h)
    rwa [show k + 1 + i = k + (i + 1) by omega] at this
theorem worst_in {h : Bool} {ts : List Tk} {i : Nat} {t : Tk} {m : Nat} (ht : ts[i]? = some t) (hd : (m : Int) % t.ev = 0) : ∀ {n : Nat}, m < n → (⟨(i : Int), (m : Int), needOf h t⟩ : Jb) ∈ worstL h ts n
  | 0, hm => by omega
  | n + 1, hm => by
    rw [worstL]
    by_cases e : m = n
    · subst e
      have := row_in (h := h) (k := 0) ht hd
      rw [Nat.zero_add] at this
      exact List.mem_append.2 (.inr this)
    · exact List.mem_append.2 (.inl (worst_in ht hd (by omega)))
theorem len_le_of_sub : ∀ {l m : List Jb}, l.Nodup → (∀ x ∈ l, x ∈ m) → l.length ≤ m.length
  | [], m, _, _ => Nat.zero_le _
  | x :: l, m, hn, hs => by
    obtain ⟨h1, h2⟩ := List.nodup_cons.1 hn
    have hx := hs x (by simp)
    have hl := List.length_erase_of_mem hx
    have hp := List.length_pos_of_mem hx
    have := len_le_of_sub (l := l) (m := m.erase x) h2 (fun y hy => (List.mem_erase_of_ne (fun e => h1 (by rw [← e]; exact hy))).2 (hs y (by simp [hy])))
    rw [List.length_cons]
    omega
theorem ordJ_nodup {l : List Jb} (h : ordJ l = true) : l.Nodup :=
  (ordJ_iff.1 h).imp fun {a b} hab e => by rw [e, bef_irr] at hab; cases hab
theorem ordJ_eq : ∀ {a b : List Jb}, ordJ a = true → ordJ b = true → (∀ x, x ∈ a ↔ x ∈ b) → a = b
  | [], b, _, _, h => by
    rcases b with _ | ⟨y, b⟩
    · rfl
    · have := (h y).2 (by simp); simp at this
  | x :: a, [], _, _, h => by have := (h x).1 (by simp); simp at this
  | x :: a, y :: b, ha, hb, h => by
    have ha' := List.pairwise_cons.1 (ordJ_iff.1 ha)
    have hb' := List.pairwise_cons.1 (ordJ_iff.1 hb)
    have hxy : x = y := by
      rcases List.mem_cons.1 ((h x).1 (by simp)) with e | e
      · exact e
      · rcases List.mem_cons.1 ((h y).2 (by simp)) with e2 | e2
        · exact e2.symm
        · have h1 := hb'.1 x e
          have h2 := ha'.1 y e2
          rw [bef_asym h1] at h2; cases h2
    subst hxy
    have hm : ∀ z, z ∈ a ↔ z ∈ b := fun z => by
      constructor
      · intro hz
        rcases List.mem_cons.1 ((h z).1 (by simp [hz])) with e | e
        · have := ha'.1 z hz; rw [e, bef_irr] at this; cases this
        · exact e
      · intro hz
        rcases List.mem_cons.1 ((h z).2 (by simp [hz])) with e | e
        · have := hb'.1 z hz; rw [e, bef_irr] at this; cases this
        · exact e
    rw [ordJ_eq (ordJ_iff.2 ha'.2) (ordJ_iff.2 hb'.2) hm]
/-- A heap holds the next job of each of the first k tasks. -/
structure Nx (ts : List Tk) (h : Bool) (k : Nat) (hs : List Jb) : Prop where
  nd : (hs.map Jb.ta).Nodup
  is_ : ∀ x ∈ hs, ∃ (i : Nat) (t : Tk), i < k ∧ ts[i]? = some t ∧ x.ta = (i : Int) ∧ 0 ≤ x.tm ∧ x.tm ≤ 219 ∧ x.tm % t.ev = 0 ∧ x.ne = needOf h t
  all_ : ∀ i, i < k → ∃ x ∈ hs, x.ta = (i : Int)
theorem nx_nil (ts : List Tk) (h : Bool) : Nx ts h 0 [] := ⟨by simp, by simp, fun i hi => by omega⟩
theorem nx_push {ts : List Tk} {h : Bool} {k : Nat} {hs hs' : List Jb} {t : Tk} (hx : Nx ts h k hs) (ht : ts[k]? = some t) (hp : hs'.Perm (hs ++ [⟨(k : Int), 0, needOf h t⟩])) : Nx ts h (k + 1) hs' := by
  refine ⟨?_, fun x hxm => ?_, fun i hi => ?_⟩
  · rw [(hp.map Jb.ta).nodup_iff, List.map_append, List.nodup_append]
    refine ⟨hx.nd, by simp, fun a ha b hb => ?_⟩
    obtain ⟨x, hxm, rfl⟩ := List.mem_map.1 ha
    obtain ⟨i, _, hi, _, e, _⟩ := hx.is_ x hxm
    simp at hb
    rw [e, hb]
    omega
  · rcases List.mem_append.1 (hp.mem_iff.1 hxm) with hm | hm
    · obtain ⟨i, u, hi, r⟩ := hx.is_ x hm
      exact ⟨i, u, by omega, r⟩
    · rw [List.mem_singleton.1 hm]
      exact ⟨k, t, by omega, ht, rfl, Int.le_refl _, by dsimp only; omega, by simp, rfl⟩
  · by_cases e : i = k
    · subst e
      exact ⟨⟨(i : Int), 0, needOf h t⟩, hp.mem_iff.2 (List.mem_append.2 (.inr (List.mem_singleton.2 rfl))), rfl⟩
    · obtain ⟨x, hxm, hxt⟩ := hx.all_ i (by omega)
      exact ⟨x, hp.mem_iff.2 (by simp [hxm]), hxt⟩
/-- What was taken out of the heap so far: the worst jobs before the next ones. -/
structure Wo (ts : List Tk) (h : Bool) (u : Nat) (hs out : List Jb) : Prop where
  ord : ordJ out = true
  mem : ∀ w, w ∈ out ↔ (w ∈ worstL h ts u ∧ ∀ x ∈ hs, x.ta = w.ta → w.tm < x.tm)
  bef : ∀ w ∈ out, ∀ x ∈ hs, befB w x = true
theorem wo_start {ts : List Tk} {h : Bool} {u : Nat} {hs : List Jb} (hx : Nx ts h ts.length hs) (h0 : ∀ x ∈ hs, x.tm = 0) : Wo ts h u hs [] := by
  refine ⟨rfl, fun w => ⟨fun hw => by simp at hw, fun hw => ?_⟩, fun w hw => by simp at hw⟩
  obtain ⟨m, i, t, _, ht, e, _⟩ := worst_mem hw.1
  obtain ⟨x, hxm, hxt⟩ := hx.all_ i (List.getElem?_eq_some_iff.1 ht).1
  have := hw.2 x hxm (by rw [hxt, e])
  rw [h0 x hxm, e] at this
  dsimp only at this
  omega
/-- One step: the first job of the heap is taken, the next one of its task is put in. -/
theorem wo_step {ts : List Tk} {h : Bool} {u : Nat} (hu : u ≤ 200) (hok : ∀ t ∈ ts, 1 ≤ t.ev ∧ t.ev ≤ 20) {hs hs1 hs2 out : List Jb} {j : Jb} {i : Nat} {t : Tk} (hx : Nx ts h ts.length hs) (hw : Wo ts h u hs out) (hp : (j :: hs1).Perm hs) (hmin : ∀ x ∈ hs, leJ j x)
    (ht : ts[i]? = some t) (hi : j.ta = (i : Int)) (hlt : j.tm < (u : Int)) (hp2 : hs2.Perm (hs1 ++ [⟨j.ta, j.tm + t.ev, j.ne⟩])) : Nx ts h ts.length hs2 ∧ Wo ts h u hs2 (out ++ [j]) := by
  have hjm : j ∈ hs := hp.mem_iff.1 (by simp)
  obtain ⟨i', t', hil, ht', hta, h0, h1, hd, hne⟩ := hx.is_ j hjm
  obtain rfl : i' = i := by omega
  rw [ht] at ht'
  injection ht' with ht'
  subst ht'
  have hev := hok t (List.mem_of_getElem? ht)
  have hnd : (j.ta :: hs1.map Jb.ta).Nodup := by
    have := hx.nd
    rw [← (hp.map Jb.ta).nodup_iff] at this
    simpa using this
  obtain ⟨hn1, hn2⟩ := List.nodup_cons.1 hnd
  have hs1m : ∀ x, x ∈ hs1 → x ∈ hs := fun x hxm => hp.mem_iff.1 (by simp [hxm])
  have hs1n : ∀ x, x ∈ hs1 → ¬ x.ta = j.ta := fun x hxm e => hn1 (by rw [← e]; exact List.mem_map.2 ⟨x, hxm, rfl⟩)
  have hsj : ∀ x, x ∈ hs → x = j ∨ x ∈ hs1 := fun x hxm => by simpa using hp.mem_iff.2 hxm
  have h2m : ∀ x, x ∈ hs2 ↔ x ∈ hs1 ∨ x = ⟨j.ta, j.tm + t.ev, j.ne⟩ := fun x => by rw [hp2.mem_iff]; simp
  have hjW : j ∈ worstL h ts u := by
    have := worst_in (h := h) (m := j.tm.toNat) (n := u) ht (by rw [Int.toNat_of_nonneg h0]; exact hd) (by omega)
    rwa [show (⟨(i' : Int), (j.tm.toNat : Int), needOf h t⟩ : Jb) = j from Jb.eq_of hta.symm (Int.toNat_of_nonneg h0) hne.symm] at this
  refine ⟨⟨?_, fun x hxm => ?_, fun k hk => ?_⟩, ⟨?_, fun w => ?_, fun w hwm x hxm => ?_⟩⟩
  · rw [(hp2.map Jb.ta).nodup_iff, List.map_append, List.nodup_append]
    refine ⟨hn2, by simp, fun a ha b hb => ?_⟩
    obtain ⟨x, hxm, rfl⟩ := List.mem_map.1 ha
    simp at hb
    rw [hb]
    exact hs1n x hxm
  · rcases (h2m x).1 hxm with e | e
    · exact hx.is_ x (hs1m x e)
    · rw [e]
      exact ⟨i', t, hil, ht, hta, by dsimp only; omega, by dsimp only; omega, by dsimp only; rw [Int.add_emod_right]; exact hd, hne⟩
  · obtain ⟨x, hxm, hxt⟩ := hx.all_ k hk
    rcases hsj x hxm with e | e
    · exact ⟨_, (h2m _).2 (.inr rfl), by rw [← hxt, e]⟩
    · exact ⟨x, (h2m x).2 (.inl e), hxt⟩
  · rw [ordJ_iff, List.pairwise_append]
    exact ⟨ordJ_iff.1 hw.ord, by simp, fun a ha b hb => by rw [List.mem_singleton.1 hb]; exact hw.bef a ha j hjm⟩
  · rw [List.mem_append, hw.mem w, List.mem_singleton]
    constructor
    · rintro (⟨hW, hall⟩ | e)
      · refine ⟨hW, fun x hxm hxt => ?_⟩
        rcases (h2m x).1 hxm with e | e
        · exact hall x (hs1m x e) hxt
        · have := hall j hjm (by rw [← hxt, e])
          rw [e]; dsimp only; omega
      · subst e
        refine ⟨hjW, fun x hxm hxt => ?_⟩
        rcases (h2m x).1 hxm with e | e
        · exact absurd hxt (hs1n x e)
        · rw [e]; dsimp only; omega
    · rintro ⟨hW, hall⟩
      by_cases ew : w.ta = j.ta
      · have h3 := hall _ ((h2m _).2 (.inr rfl)) ew.symm
        dsimp only at h3
        obtain ⟨m, k, tk, hm, htk, e, hdk⟩ := worst_mem hW
        have hk : k = i' := by rw [e] at ew; dsimp only at ew; omega
        subst hk
        rw [ht] at htk
        injection htk with htk
        subst htk
        by_cases hlt2 : w.tm < j.tm
        · refine .inl ⟨hW, fun x hxm hxt => ?_⟩
          rcases hsj x hxm with e2 | e2
          · rw [e2]; exact hlt2
          · exact absurd (hxt.trans ew) (hs1n x e2)
        · right
          have hmt : w.tm = (m : Int) := by rw [e]
          have heq : w.tm = j.tm := by
            by_cases h4 : j.tm < w.tm
            · have := mod_gap (e := t.ev) (by omega) hd (by rw [hmt]; exact hdk) h4
              omega
            · omega
          exact Jb.eq_of ew heq (by rw [e, hne])
      · refine .inl ⟨hW, fun x hxm hxt => ?_⟩
        rcases hsj x hxm with e2 | e2
        · exact absurd (by rw [← hxt, e2]) ew
        · exact hall x ((h2m x).2 (.inl e2)) hxt
  · rcases List.mem_append.1 hwm with hwm | hwm
    · rcases (h2m x).1 hxm with e | e
      · exact hw.bef w hwm x (hs1m x e)
      · have hb := befB_iff.1 (hw.bef w hwm j hjm)
        rw [e, befB_iff]
        dsimp only
        omega
    · rw [List.mem_singleton.1 hwm]
      rcases (h2m x).1 hxm with e | e
      · exact bef_of_le (hmin x (hs1m x e)) (fun e2 => hs1n x e e2.symm)
      · rw [e, befB_iff]
        dsimp only
        omega
theorem worst_ord {h : Bool} {ts : List Tk} {u : Nat} (hs : setB ts = true) (hu : u ≤ 200) : ordJ (worstL h ts u) = true := pair_ord (worst_ok hs (by omega)).2
/-- No next job comes before the end: all worst jobs were taken. -/
theorem wo_end {ts : List Tk} {h : Bool} {u : Nat} (hset : setB ts = true) (hu : u ≤ 200) {hs out : List Jb} (hw : Wo ts h u hs out) (hge : ∀ x ∈ hs, (u : Int) ≤ x.tm) : out = worstL h ts u := by
  refine ordJ_eq hw.ord (worst_ord hset hu) fun w => ?_
  rw [hw.mem w]
  constructor
  · exact fun hh => hh.1
  · intro hW
    refine ⟨hW, fun x hxm _ => ?_⟩
    obtain ⟨m, i, t, hm, _, e, _⟩ := worst_mem hW
    have := hge x hxm
    rw [e]; dsimp only; omega
theorem wo_min {hs : List Jb} {j : Jb} {u : Int} (hmin : ∀ x ∈ hs, leJ j x) (hge : u ≤ j.tm) : ∀ x ∈ hs, u ≤ x.tm := fun x hx => by
  have := leJ_iff.1 (hmin x hx); omega
/-- There is one more worst job than were taken. -/
theorem wo_full {ts : List Tk} {h : Bool} {u : Nat} {hs out : List Jb} {j : Jb} (hx : Nx ts h ts.length hs) (hw : Wo ts h u hs out) (hjm : j ∈ hs) (hlt : j.tm < (u : Int)) : out.length < (worstL h ts u).length := by
  obtain ⟨i', t', hil, ht', hta, h0, h1, hd, hne⟩ := hx.is_ j hjm
  have hjW : j ∈ worstL h ts u := by
    have := worst_in (h := h) (m := j.tm.toNat) (n := u) ht' (by rw [Int.toNat_of_nonneg h0]; exact hd) (by omega)
    rwa [show (⟨(i' : Int), (j.tm.toNat : Int), needOf h t'⟩ : Jb) = j from Jb.eq_of hta.symm (Int.toNat_of_nonneg h0) hne.symm] at this
  have hord : ordJ (out ++ [j]) = true := by
    rw [ordJ_iff, List.pairwise_append]
    exact ⟨ordJ_iff.1 hw.ord, by simp, fun a ha b hb => by rw [List.mem_singleton.1 hb]; exact hw.bef a ha j hjm⟩
  have := len_le_of_sub (ordJ_nodup hord) (m := worstL h ts u) (fun x hxm => by
    rcases List.mem_append.1 hxm with e | e
    · exact ((hw.mem x).1 e).1
    · rw [List.mem_singleton.1 e]; exact hjW)
  rw [List.length_append] at this
  simp at this
  omega
theorem nx_bound {ts : List Tk} {h : Bool} {k : Nat} {hs : List Jb} (hx : Nx ts h k hs) (hk : k ≤ 5) : hs.length ≤ 5 := by
  have : ∀ {l : List Int}, l.Nodup → (∀ x ∈ l, 0 ≤ x ∧ x < 5) → l.length ≤ 5 := by
    intro l hn hb
    have hsub : ∀ {l m : List Int}, l.Nodup → (∀ x ∈ l, x ∈ m) → l.length ≤ m.length := by
      intro l
      induction l with
      | nil => intro m _ _; exact Nat.zero_le _
      | cons x l ih =>
        intro m hn hs
        obtain ⟨h1, h2⟩ := List.nodup_cons.1 hn
        have hx := hs x (by simp)
        have hl := List.length_erase_of_mem hx
        have hp := List.length_pos_of_mem hx
        have := ih (m := m.erase x) h2 (fun y hy => (List.mem_erase_of_ne (fun e => h1 (by rw [← e]; exact hy))).2 (hs y (by simp [hy])))
        rw [List.length_cons]
        omega
    exact hsub (m := [0, 1, 2, 3, 4]) hn (fun x hx => by
      obtain ⟨h1, h2⟩ := hb x hx
      rcases (by omega : x = 0 ∨ x = 1 ∨ x = 2 ∨ x = 3 ∨ x = 4) with rfl | rfl | rfl | rfl | rfl <;> simp)
  have h2 := this hx.nd (fun x hxm => by
    obtain ⟨y, hy, rfl⟩ := List.mem_map.1 hxm
    obtain ⟨i, _, hi, _, e, _⟩ := hx.is_ y hy
    omega)
  simpa using h2
end Go.Proofs.YtgponahmkjohiabGreatDoor
