/- Contract of pop in the program's heap of jobs. -/
import Derived.Test.YthdclaljgimclaaDoorQHk
namespace Go.Proofs.YthdclaljgimclaaDoor
open Go.RowKit
set_option linter.unusedVariables false

theorem Gr2.blk {w w' : World} {hb x : Nat} {row : Option Nat} {t : TypeId} {cs : Array Value} (h : Gr2 w w' hb row) (hx : Blk w x t cs) (h1 : x ≠ hb) (h2 : some x ≠ row) : Blk w' x t cs := (h.block x hx.lt h1 h2).trans hx
theorem OwnJ.less_ {w : World} {B g n cap : Nat} {js : List Jb} (h : OwnJ w B (.slice (some ⟨g, 0, none⟩) (n + 1) cap) js) : OwnJ w B (.slice (some ⟨g, 0, none⟩) n cap) (js.take n) := by
  obtain ⟨hnl, hBg, cur, hcur, hnN, hNm, hcs, htk⟩ := jown_block h
  have hl : (js.take n).length = n := by rw [List.length_take]; omega
  have h2 := jown_of_block (ts := js.take n) (N := cap) (cur := cur) hBg hcur (by rw [hl]; omega) hNm hcs (by
    rw [hl, ← jtake_cells, ← htk, List.take_take, Nat.min_eq_left (by omega)])
  rwa [hl] at h2
theorem OwnJ.setApart {w : World} {B g n c : Nat} {ts : List Jb} (h : OwnJ w B (.slice (some ⟨g, 0, none⟩) n c) ts) {a : Addr} (ha : g ≠ a.block) (u : Value) : OwnJ (w.setCell a u) B (.slice (some ⟨g, 0, none⟩) n c) ts :=
  ⟨h.1, by
    rcases h.2 with h2 | ⟨g', cap, cur, e, hb, hg, rest⟩
    · exact .inl h2
    · have e2 := e
      injection e2 with e1 _ _
      injection e1 with e1
      injection e1 with e1 _ _
      subst e1
      exact .inr ⟨g, cap, cur, e, hb, (Below.heap_setCell w a u g ha).trans hg, rest⟩⟩
theorem Hp.setApart {w : World} {B hb og g n c : Nat} {hs : List Jb} (h : Hp w B hb og hs (.slice (some ⟨g, 0, none⟩) n c)) {a : Addr} (h1 : hb ≠ a.block) (h2 : og ≠ a.block) (h3 : g ≠ a.block) (u : Value) : Hp (w.setCell a u) B hb og hs (.slice (some ⟨g, 0, none⟩) n c) :=
  ⟨h.blk.far h1 u, h.own.setApart h3 u, h.lt, h.ord.setFar h2 u, h.ogB, h.hog⟩
theorem Gr2.setNew {w w' : World} {hb : Nat} {row : Option Nat} (h : Gr2 w w' hb row) {a : Addr} (ha : w.heap.size ≤ a.block) (u : Value) : Gr2 w (w'.setCell a u) hb row :=
  ⟨h.os, h.tape, h.output, by simp [World.setCell]; exact h.size, fun k hk h1 h2 => (Below.heap_setCell w' a u k (by omega)).trans (h.block k hk h1 h2)⟩
/-- The first job of a heap, and what is left. -/
def PopRes (B hb og : Nat) (hs : List Jb) (g cap : Nat) (j : Jb) (w : World) (e : Ending) (w' : World) : Prop :=
  e = .returned j.val ∧ ∃ hs' : List Jb, Hp w' B hb og hs' (.slice (some ⟨g, 0, none⟩) hs'.length cap) ∧ heapP hs' ∧ (j :: hs').Perm hs ∧ Gr2 w w' hb (some g)
set_option maxRecDepth 100000 in
set_option maxHeartbeats 8000000 in
theorem iPop_is (w : World) (B hb og : Nat) (hs : List Jb) (g cap n : Nat) (hn : hs.length = n + 1) (h : Hp w B hb og hs (.slice (some ⟨g, 0, none⟩) (n + 1) cap)) (hp : heapP hs) (hl : n ≤ 60) (j : Jb) (hj : hs[0]? = some j) :
    Calls Tryd.prog 48 #[.pointer (some ⟨hb, 0, none⟩)] w (PopRes B hb og hs g cap j w) := by
  have HH := Lib.hid h
  have HP := Lib.hid hp
  have HN := Lib.hid hn
  have HJ := Lib.hid hj
  obtain ⟨y, hy⟩ : ∃ y, hs[n]? = some y := ⟨hs[n]'(by omega), List.getElem?_eq_getElem _⟩
  have HY := Lib.hid hy
  obtain ⟨_, d0, d1, d2⟩ := h.own.reads.2.get hj
  have hgl : g < w.heap.size := (World.ownsRow.lt h.own g rfl).2
  have hgB : B ≤ g := (World.ownsRow.lt h.own g rfl).1
  have hbl : hb < w.heap.size := h.blk.lt
  have hbB := h.lt
  have hnc : n + 1 ≤ cap := by
    have h1 := h.own
    have e := h1.reads.1
    rw [e] at h1 ⊢
    exact h1.le
  have e0 := h.blk.cell 0
  obtain ⟨ta, tm, ne⟩ := j
  dsimp only at d0 d1 d2
  simp only [Nat.zero_add, Nat.zero_mul] at d0 d1 d2
  have c0 := (World.cell?_alloc_lt w (.cells #[.int .i64 0, .int .i64 0, .int .i64 0] 35) ⟨hb, 0, none⟩ hbl).trans e0
  have c1 := (World.cell?_alloc_lt w (.cells #[.int .i64 0, .int .i64 0, .int .i64 0] 35) ⟨g, 0, none⟩ hgl).trans d0
  have c2 := (World.cell?_alloc_lt w (.cells #[.int .i64 0, .int .i64 0, .int .i64 0] 35) ⟨g, 1, none⟩ hgl).trans d1
  have c3 := (World.cell?_alloc_lt w (.cells #[.int .i64 0, .int .i64 0, .int .i64 0] 35) ⟨g, 2, none⟩ hgl).trans d2
  have b0 := (World.cell?_alloc_lt (w.alloc (.cells #[.int .i64 0, .int .i64 0, .int .i64 0] 35)) (.cells #[.int .i64 ta, .int .i64 tm, .int .i64 ne] 35) ⟨hb, 0, none⟩ (by simp; omega)).trans c0
  have b1 := (World.cell?_alloc_lt (w.alloc (.cells #[.int .i64 0, .int .i64 0, .int .i64 0] 35)) (.cells #[.int .i64 ta, .int .i64 tm, .int .i64 ne] 35) ⟨g, 0, none⟩ (by simp; omega)).trans c1
  have b2 := (World.cell?_alloc_lt (w.alloc (.cells #[.int .i64 0, .int .i64 0, .int .i64 0] 35)) (.cells #[.int .i64 ta, .int .i64 tm, .int .i64 ne] 35) ⟨g, 1, none⟩ (by simp; omega)).trans c2
  have b3 := (World.cell?_alloc_lt (w.alloc (.cells #[.int .i64 0, .int .i64 0, .int .i64 0] 35)) (.cells #[.int .i64 ta, .int .i64 tm, .int .i64 ne] 35) ⟨g, 2, none⟩ (by simp; omega)).trans c3
  have n0 : (0 : Int) < (n : Int) + 1 := by omega
  have kw : IntKind.i64.wrap ((n : Int) + 1 - 1) = (n : Int) := by rw [IntWalk.i64_in _ (by omega)]; omega
  have kw2 : IntKind.i64.wrap (n : Int) = (n : Int) := IntWalk.i64_in _ (by omega)
  have n1 : (n : Int) ≤ (cap : Int) := by omega
  have n2 : n ≤ cap := by omega
  clear h hp hn hj hy d0 d1 d2 e0
  unfold Jb.val at *
  go_enter Tryd.func48, Tryd.ntmps48
  go_wp2
  go_region_held3 (fun W => W.cell? ⟨hb, 0, none⟩ = some (.slice (some ⟨g, 0, none⟩) (n + 1) cap) ∧ W.cell? ⟨g, 0, none⟩ = some (.int .i64 ta) ∧ W.cell? ⟨g, 1, none⟩ = some (.int .i64 tm) ∧ W.cell? ⟨g, 2, none⟩ = some (.int .i64 ne)) (first | exact ⟨c0, c1, c2, c3⟩ | exact ⟨b0, b1, b2, b3⟩ | assumption | (simp [go_sem, *]; done)) (fail)
  have HW1 := Lib.hid (show Below w.heap.size w ((w.alloc (.cells #[.int .i64 0, .int .i64 0, .int .i64 0] 35)).alloc (.cells #[.int .i64 ta, .int .i64 tm, .int .i64 ne] 35)).drew from Below.drew (bl_alloc (bl_alloc (Below.refl _ _) _) _))
  have BR1 : Hid (Blk ((w.alloc (.cells #[.int .i64 0, .int .i64 0, .int .i64 0] 35)).alloc (.cells #[.int .i64 ta, .int .i64 tm, .int .i64 ne] 35)).drew w.heap.size 35 #[.int .i64 0, .int .i64 0, .int .i64 0]) := Lib.hid ((Blk.new w 35 #[.int .i64 0, .int .i64 0, .int .i64 0]).alloc _)
  have BF1 : Hid (Blk ((w.alloc (.cells #[.int .i64 0, .int .i64 0, .int .i64 0] 35)).alloc (.cells #[.int .i64 ta, .int .i64 tm, .int .i64 ne] 35)).drew (w.heap.size + 1) 35 #[.int .i64 ta, .int .i64 tm, .int .i64 ne]) := Lib.hid (by
    have h1 := Blk.new (w.alloc (.cells #[.int .i64 0, .int .i64 0, .int .i64 0] 35)) 35 #[.int .i64 ta, .int .i64 tm, .int .i64 ne]
    rw [World.size_alloc] at h1
    exact h1)
  have HH1 := Lib.hid (HH.out.below HW1.out)
  have hs1 : w.heap.size + 1 < ((w.alloc (.cells #[.int .i64 0, .int .i64 0, .int .i64 0] 35)).alloc (.cells #[.int .i64 ta, .int .i64 tm, .int .i64 ne] 35)).drew.heap.size := BF1.out.lt
  clear c0 c1 c2 c3 b0 b1 b2 b3
  generalize ((w.alloc (.cells #[.int .i64 0, .int .i64 0, .int .i64 0] 35)).alloc (.cells #[.int .i64 ta, .int .i64 tm, .int .i64 ne] 35)).drew = w1 at *
  go_wp2_with fail
  refine (iSwap_is _ B hb og hs (.slice (some ⟨g, 0, none⟩) (n + 1) cap) HH1.out 0 n ⟨ta, tm, ne⟩ y HJ.out HY.out).mono ?_
  rintro e w2 ⟨rfl, hh2, hg2⟩
  have HH2 := Lib.hid hh2
  have hg2' : w1.grownBy w2 (some g) := hg2
  have HG2 : Hid (Gr2 w w2 hb (some g)) := Lib.hid (Gr2.trans (Gr2.of_below HW1.out) (Gr2.of_gb hg2') (fun x e => .inl e))
  have BR2 := Lib.hid (BR1.out.grown hg2' (by intro e; injection e with e; omega))
  have BF2 := Lib.hid (BF1.out.grown hg2' (by intro e; injection e with e; omega))
  clear hh2 hg2 hg2' BR1 BF1 HH1
  have c0 := HH2.out.blk.cell 0
  have f0 := HH2.out.blk.frozen 0
  have HH3 : Hid (Hp (w2.setCell ⟨hb, 0, none⟩ (.slice (some ⟨g, 0, none⟩) n cap)) B hb og ((swapL hs 0 n ⟨ta, tm, ne⟩ y).take n) (.slice (some ⟨g, 0, none⟩) n cap)) := Lib.hid ⟨HH2.out.blk.set_ 0 _, (OwnJ.less_ HH2.out.own).setFar hbB _, hbB, HH2.out.ord.setFar HH2.out.hog _, HH2.out.ogB, HH2.out.hog⟩
  have HG3 := Lib.hid (HG2.out.set 0 (.slice (some ⟨g, 0, none⟩) n cap))
  have BR3 := Lib.hid (BR2.out.far (p := ⟨hb, 0, none⟩) (by dsimp only; omega) (.slice (some ⟨g, 0, none⟩) n cap))
  have BF3 := Lib.hid (BF2.out.far (p := ⟨hb, 0, none⟩) (by dsimp only; omega) (.slice (some ⟨g, 0, none⟩) n cap))
  have HTL := Lib.hid (show ((swapL hs 0 n ⟨ta, tm, ne⟩ y).take n).length = n by rw [List.length_take, swap_len, HN.out]; omega)
  have HDI := Lib.hid (pop_start HP.out HN.out HJ.out HY.out)
  have HPM := Lib.hid (take_swap_perm HN.out HJ.out HY.out)
  clear HH2 HG2 BR2 BF2
  go_wp2_with fail
  clear c0 f0
  refine (iSink_is _ B hb og _ g cap (by rw [HTL.out]; exact HH3.out) HDI.out (by rw [HTL.out]; omega)).mono ?_
  rintro e w4 ⟨rfl, hs', hh4, hl4, hp4, hm4, hg4⟩
  have HH4 := Lib.hid hh4
  have HP4 := Lib.hid hp4
  have HM4 := Lib.hid ((List.Perm.cons ⟨ta, tm, ne⟩ hm4).trans HPM.out)
  have HG4 := Lib.hid (Gr2.trans HG3.out hg4 (fun x e => .inl e))
  have BR4 := Lib.hid (hg4.blk BR3.out (by omega) (by intro e; injection e with e; omega))
  have BF4 := Lib.hid (hg4.blk BF3.out (by omega) (by intro e; injection e with e; omega))
  clear hh4 hl4 hp4 hm4 hg4 HG3 BR3 BF3 HH3
  have c0 := BF4.out.cell 0
  have c1 := BF4.out.cell 1
  have c2 := BF4.out.cell 2
  have r0 := BR4.out.cell 0
  have r1 := BR4.out.cell 1
  have r2 := BR4.out.cell 2
  have fr := BR4.out.frozen
  have cF := fun (s t u : Value) => (((BR4.out.set_ 0 s).set_ 1 t).set_ 2 u).cell
  go_wp2
  refine bodyPost_ret (v := .agg #[.int .i64 ta, .int .i64 tm, .int .i64 ne]) (by simp [results, Tryd.results48, go_sem, cF]) rfl ⟨rfl, hs', ?_, HP4.out, HM4.out, ?_⟩
  · repeat (refine Hp.setApart ?_ (by dsimp only; omega) (by dsimp only; have := HH4.out.ogB; omega) (by dsimp only; omega) _)
    exact HH4.out
  · repeat (refine Gr2.setNew ?_ (by dsimp only; omega) _)
    exact HG4.out

end Go.Proofs.YthdclaljgimclaaDoor
