/- Contract of the reference's opening of a reader over the bytes of the input; nothing that was there is written. -/
import Derived.Test.YtjondedkgkohfaaNum
import Derived.Test.YtjondedkgkohfaaKit
namespace Go.Proofs.Ytjondedkgkohfaa
open Go.RowKit

/-- A slice of n bytes f 0, f 1, .. below block B. -/
structure Code (w : World) (B : Nat) (A : Option Addr) (n c : Nat) (f : Nat → Int) : Prop where
  le : n ≤ c
  max : c ≤ maxLen
  at_ : ∀ i, i < n → ∃ b o, A = some ⟨b, o, none⟩ ∧ b < B ∧ w.cell? ⟨b, o + i, none⟩ = some (.int .u8 (f i))
  byte : ∀ i, 0 ≤ f i ∧ f i < 256

theorem Code.alloc {w : World} {A : Option Addr} {n c : Nat} {f : Nat → Int} (h : Code w w.heap.size A n c f) (o : Obj) : Code (w.alloc o) (w.alloc o).heap.size A n c f :=
  ⟨h.le, h.max, fun i hi => by
    obtain ⟨b, of, e, hb, hc⟩ := h.at_ i hi
    exact ⟨b, of, e, by simp; omega, by rw [World.cell?_alloc_lt w o _ hb]; exact hc⟩, h.byte⟩

def Opened (A : Option Addr) (c : Nat) (f : Nat → Int) (w : World) (e : Ending) (w' : World) : Prop :=
  e = .returned (.pointer (some ⟨w.heap.size, 0, none⟩)) ∧ ∃ n, Rd w' w.heap.size w.heap.size A n c f 0 ∧ Below w.heap.size w w'

theorem rd_new {w : World} {A : Option Addr} {n c m : Nat} {f : Nat → Int} (h : Code w w.heap.size A n c f) (hm : m ≤ n) (hm2 : m ≤ 2000) :
    Rd (w.alloc (.cells #[.slice A m c, .int .i64 0] 98)) w.heap.size w.heap.size A m c f 0 :=
  ⟨heap_alloc_new w _, Nat.le_refl _, hm2, fun i hi => by
    obtain ⟨b, of, e, hb, hc⟩ := h.at_ i (by omega)
    exact ⟨b, of, e, hb, by rw [World.cell?_alloc_lt w _ _ hb]; exact hc⟩, h.byte⟩

set_option maxHeartbeats 1000000 in
theorem open_any (w : World) (A : Option Addr) (n c : Nat) (f : Nat → Int) (h : Code w w.heap.size A n c f) :
    Calls Try.prog 62 #[.slice A n c] w (Opened A c f w) := by
  have H := Lib.hid h
  have hle := h.le
  have hmax := h.max
  unfold maxLen at hmax
  by_cases hn : 2000 < n
  · obtain ⟨b, o, rfl, _, _⟩ := h.at_ 0 (by omega)
    clear h
    go_enter Try.func62, Try.ntmps62
    go_wp2
    go_ret
    exact ⟨rfl, 2000, rd_new H.out (by omega) (by omega), (Below.refl _ _).alloc (Nat.le_refl _) _⟩
  · clear h
    go_enter Try.func62, Try.ntmps62
    go_wp2
    go_ret
    exact ⟨rfl, n, rd_new H.out (by omega) (by omega), (Below.refl _ _).alloc (Nat.le_refl _) _⟩

end Go.Proofs.Ytjondedkgkohfaa
