/- Contracts of the reference's readers: a reader is opened over the bytes of the input; what is drawn from it as a task has small numbers; nothing that was there is written. -/
import Derived.Test.YtnhffadebjibnabDoorTask
namespace Go.Proofs.YtnhffadebjibnabDoor
open Go.RowKit

/-- A slice of n bytes f 0, f 1, .. below block B. -/
structure Code (w : World) (B : Nat) (A : Option Addr) (n c : Nat) (f : Nat → Int) : Prop where
  le : n ≤ c
  max : c ≤ maxLen
  at_ : ∀ i, i < n → ∃ b o, A = some ⟨b, o, none⟩ ∧ b < B ∧ w.cell? ⟨b, o + i, none⟩ = some (.int .u8 (f i))
  byte : ∀ i, 0 ≤ f i ∧ f i < 256

theorem Code.alloc {w : World} {A : Option Addr} {n c : Nat} {f : Nat → Int} (h : Code w w.heap.size A n c f) (o : Obj) : Code (w.alloc o) (w.alloc o).heap.size A n c f :=
  ⟨h.le, h.max, fun i hi => by
    obtain ⟨b, of, e, hb, hc⟩ := h.at_ i hi
    exact ⟨b, of, e, by simp; omega, by rw [World.cell?_alloc_lt w o _ hb]; exact hc⟩, h.byte⟩

def Opened (A : Option Addr) (c : Nat) (f : Nat → Int) (w : World) (e : Ending) (w' : World) : Prop :=
  e = .returned (.pointer (some ⟨w.heap.size, 0, none⟩)) ∧ ∃ n, Rd w' w.heap.size w.heap.size A n c f 0 ∧ Below w.heap.size w w'

theorem rd_new {w : World} {A : Option Addr} {n c m : Nat} {f : Nat → Int} (h : Code w w.heap.size A n c f) (hm : m ≤ n) (hm2 : m ≤ 2000) :
    Rd (w.alloc (.cells #[.slice A m c, .int .i64 0] 70)) w.heap.size w.heap.size A m c f 0 :=
  ⟨heap_alloc_new w _, Nat.le_refl _, hm2, fun i hi => by
    obtain ⟨b, of, e, hb, hc⟩ := h.at_ i (by omega)
    exact ⟨b, of, e, hb, by rw [World.cell?_alloc_lt w _ _ hb]; exact hc⟩, h.byte⟩

set_option maxHeartbeats 1000000 in
theorem open_any (w : World) (A : Option Addr) (n c : Nat) (f : Nat → Int) (h : Code w w.heap.size A n c f) :
    Calls Tryd.prog 42 #[.slice A n c] w (Opened A c f w) := by
  have H := Lib.hid h
  have hle := h.le
  have hmax := h.max
  unfold maxLen at hmax
  by_cases hn : 2000 < n
  · obtain ⟨b, o, rfl, _, _⟩ := h.at_ 0 (by omega)
    clear h
    go_enter Tryd.func42, Tryd.ntmps42
    go_wp2
    go_ret
    exact ⟨rfl, 2000, rd_new H.out (by omega) (by omega), (Below.refl _ _).alloc (Nat.le_refl _) _⟩
  · clear h
    go_enter Tryd.func42, Tryd.ntmps42
    go_wp2
    go_ret
    exact ⟨rfl, n, rd_new H.out (by omega) (by omega), (Below.refl _ _).alloc (Nat.le_refl _) _⟩

def DrewTask (good : Int → Int → Int → Int → Bool → Prop) (w : World) (e : Ending) (w' : World) : Prop :=
  ∃ (lo hi du ev : Int) (cr : Bool), e = .returned (.agg #[.int .i64 lo, .int .i64 hi, .int .i64 du, .int .i64 ev, .bool cr]) ∧ good lo hi du ev cr ∧ Below w.heap.size w w'

set_option maxHeartbeats 1000000 in
theorem drawTask_any (w : World) (A : Option Addr) (n c : Nat) (f : Nat → Int) (h : Code w w.heap.size A n c f) :
    Calls Tryd.prog 36 #[.slice A n c] w (DrewTask smallT w) := by
  have H := Lib.hid h
  clear h
  go_enter Tryd.func36, Tryd.ntmps36
  go_wp2_with fail
  refine (open_any _ A n c f (H.out.alloc _)).mono ?_
  rintro e w1 ⟨rfl, m, hr, hb⟩
  have hsz1 : w.heap.size + 1 ≤ w1.heap.size := by have := hb.size; simp at this; omega
  have bR : Blk w1 w.heap.size 24 #[.int .i64 0, .int .i64 0, .int .i64 0, .int .i64 0, .bool false] := (Blk.new w 24 _).below hb (by simp)
  have hbw : Below w.heap.size w w1 := ((Below.refl _ w).alloc (Nat.le_refl _) _).trans (hb.mono (by simp))
  simp only [World.size_alloc] at hr
  have hb1 := Lib.hid hbw
  have hr1 := Lib.hid hr
  have bR1 := Lib.hid bR
  clear hb hbw hr bR
  go_wp2_with fail
  refine (task_any _ _ _ _ _ _ _ _ hr1.out (by omega)).mono ?_
  rintro e w2 ⟨lo, hi, du, ev, cr, p2, rfl, hs2, hp2, hr, hg⟩
  have hr2 := Lib.hid hr
  have hs2' := Lib.hid hs2.small
  have hb2 := Lib.hid (below_of_gb hb1.out hg (by omega) (by omega))
  have bR2 := Lib.hid (bR1.out.grown hg (by intro e; injection e; omega))
  have hsz2 : w.heap.size + 1 ≤ w2.heap.size := by have := hg.size; omega
  clear hr hs2 hg
  go_wp2_with fail
  refine (wrong_any _ _ _ _ _ _ _ _ lo hi du ev cr hr2.out (by omega) hs2'.out).mono ?_
  rintro e w3 ⟨lo, hi, du, ev, cr, p3, rfl, hs3, hp3, hr, hg⟩
  have hr3 := Lib.hid hr
  have hs3' := Lib.hid hs3
  have hb3 := Lib.hid (below_of_gb hb2.out hg (by omega) (by omega))
  have bR3 := Lib.hid (bR2.out.grown hg (by intro e; injection e; omega))
  have hsz3 : w.heap.size + 1 ≤ w3.heap.size := by have := hg.size; omega
  clear hr hs3 hg
  go_wp2_with fail
  refine (wrong_any _ _ _ _ _ _ _ _ lo hi du ev cr hr3.out (by omega) hs3'.out).mono ?_
  rintro e w4 ⟨lo, hi, du, ev, cr, p4, rfl, hs4, hp4, hr, hg⟩
  have hs4' := Lib.hid hs4
  have hb4 := Lib.hid (below_of_gb hb3.out hg (by omega) (by omega))
  have bR4 := Lib.hid (bR3.out.grown hg (by intro e; injection e; omega))
  clear hr hs4 hg
  have cR := bR4.out.cell; have fR := bR4.out.frozen
  go_wp2
  refine bodyPost_ret (v := .agg #[.int .i64 lo, .int .i64 hi, .int .i64 du, .int .i64 ev, .bool cr]) (by simp [results, Tryd.results36, go_sem, cR]) rfl ⟨lo, hi, du, ev, cr, rfl, hs4'.out, ?_⟩
  repeat (refine Below.setCell ?_ (by dsimp only; omega) _)
  exact hb4.out

end Go.Proofs.YtnhffadebjibnabDoor
