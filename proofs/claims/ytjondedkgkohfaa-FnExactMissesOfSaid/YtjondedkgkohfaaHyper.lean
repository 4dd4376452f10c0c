/- Contracts of HyperOf, in the program and in the reference: both return the least common multiple of the periods, 0 if the list is not valid. -/
import Derived.Test.YtjondedkgkohfaaSet
import Derived.Test.YtjondedkgkohfaaList
import Derived.Test.YtjondedkgkohfaaCrit
import Derived.Deep.QuietTactic
import Derived.BigQuiet
namespace Go.Proofs.Ytjondedkgkohfaa
open Go.RowKit

/-- The least common multiple of the periods of the first tasks. -/
def lcmL (ts : List Tk) : Nat := ts.foldl (fun m t => Nat.lcm m t.ev.toNat) 1
def hyperOf (ts : List Tk) : Nat := if setB ts then lcmL ts else 0

def GcdRes (a b : Nat) (w : World) (e : Ending) (w' : World) : Prop := e = .returned (.int .i64 (Nat.gcd a b)) ∧ Below w.heap.size w w'

set_option maxHeartbeats 1000000 in
theorem sGcd_any (w : World) (a b : Nat) (ha : a ≤ 4000000000) (hb : b ≤ 4000000000) :
    Calls Try.prog 107 #[.int .i64 a, .int .i64 b] w (GcdRes a b w) := by
  go_enter Try.func107, Try.ntmps107
  go_wp2
  go_loopw [0, 1] (fun u v wr => ∃ x y : Nat, x ≤ 4000000000 ∧ y ≤ 4000000000 ∧ u = .int .i64 x ∧ v = .int .i64 y ∧ Hid (Nat.gcd x y = Nat.gcd a b) ∧ Below w.heap.size w wr) (fun _ v _ => (intOf v).toNat)
  case atStart => exact ⟨a, b, ha, hb, rfl, rfl, by show _ = _; rfl, Below.refl _ _⟩
  case round =>
    obtain ⟨x, y, hx, hy, rfl, rfl, hg, hbl⟩ := hrel
    have HB := Lib.hid hbl
    clear hbl
    by_cases h0 : y = 0
    · subst h0
      go_wp2
      go_ret
      exact ⟨by have h := hg.out; rw [Nat.gcd_zero_right] at h; rw [← h]; rfl, HB.out⟩
    · have h0' : ((y : Int) != 0) = true := by simp; omega
      have h1 : 1 ≤ y := by omega
      have hm : x % y < y := Nat.mod_lt _ (by omega)
      have HG : Hid (Nat.gcd y (x % y) = Nat.gcd a b) := by show _ = _; rw [← hg.out, Nat.gcd_comm y, ← Nat.gcd_rec, Nat.gcd_comm]
      clear h0
      go_wp2
      go_roundw
      case rel => exact ⟨y, x % y, hy, by omega, rfl, by go_num, HG, HB.out⟩
      case measure => simp [intOf]; omega

/-- A slice that reads as the integers zs. -/
structure Ints (w : World) (B : Nat) (A : Option Addr) (n : Nat) (zs : List Nat) : Prop where
  len : zs.length = n
  at_ : ∀ (i z : Nat), zs[i]? = some z → ∃ b o, A = some ⟨b, o, none⟩ ∧ b < B ∧ w.cell? ⟨b, o + i, none⟩ = some (.int .i64 (z : Int))

theorem Ints.below {w w' : World} {B : Nat} {A : Option Addr} {n : Nat} {zs : List Nat} (h : Ints w B A n zs) (hb : Below B w w') : Ints w' B A n zs :=
  ⟨h.len, fun i z hz => by
    obtain ⟨b, o, e, hbB, hc⟩ := h.at_ i z hz
    exact ⟨b, o, e, hbB, (hb.cell (p := ⟨b, o + i, none⟩) hbB).trans hc⟩⟩

def lcmN (zs : List Nat) : Nat := zs.foldl Nat.lcm 1
theorem lcmN_snoc (zs : List Nat) (z : Nat) : lcmN (zs ++ [z]) = Nat.lcm (lcmN zs) z := by simp [lcmN, List.foldl_append]
theorem lcmN_take {zs : List Nat} {k z : Nat} (h : zs[k]? = some z) : lcmN (zs.take (k + 1)) = Nat.lcm (lcmN (zs.take k)) z := by
  obtain ⟨hk, rfl⟩ := List.getElem?_eq_some_iff.1 h
  rw [List.take_succ_eq_append_getElem hk, lcmN_snoc]

theorem lcmN_bound (zs : List Nat) (hz : ∀ z ∈ zs, 1 ≤ z ∧ z ≤ 20) : 1 ≤ lcmN zs ∧ lcmN zs ≤ 20 ^ zs.length := by
  have key : ∀ (zs : List Nat) (m b : Nat), (∀ z ∈ zs, 1 ≤ z ∧ z ≤ 20) → 1 ≤ m → m ≤ b → 1 ≤ zs.foldl Nat.lcm m ∧ zs.foldl Nat.lcm m ≤ b * 20 ^ zs.length := by
    intro zs
    induction zs with
    | nil => intro m b _ h1 h2; simpa using ⟨h1, h2⟩
    | cons z zs ih =>
      intro m b hz h1 h2
      obtain ⟨z1, z2⟩ := hz z (by simp)
      have l1 : 1 ≤ Nat.lcm m z := Nat.lcm_pos (by omega) (by omega)
      have l2 : Nat.lcm m z ≤ b * 20 := Nat.le_trans (Nat.le_of_dvd (Nat.mul_pos (by omega) (by omega)) (Nat.lcm_dvd_mul m z)) (Nat.mul_le_mul h2 z2)
      obtain ⟨a1, a2⟩ := ih (Nat.lcm m z) (b * 20) (fun y hy => hz y (by simp [hy])) l1 l2
      refine ⟨a1, ?_⟩
      rw [List.length_cons, Nat.pow_succ, Nat.mul_comm _ 20, ← Nat.mul_assoc]
      exact a2
  have := key zs 1 1 hz (by omega) (by omega)
  simpa [lcmN] using this

theorem lcm_impl (m z : Nat) : m * (z / Nat.gcd m z) = Nat.lcm m z := by
  rw [Nat.lcm, Nat.mul_div_assoc _ (Nat.gcd_dvd_right m z)]
theorem lcm_spec (m z : Nat) : m / Nat.gcd m z * z = Nat.lcm m z := by
  rw [Nat.lcm, Nat.mul_comm m z, Nat.mul_div_assoc _ (Nat.gcd_dvd_left m z), Nat.mul_comm]

def NumRes (m : Nat) (w : World) (e : Ending) (w' : World) : Prop := e = .returned (.int .i64 (m : Int)) ∧ Below w.heap.size w w'

theorem info_int : (Try.prog.info? 3).map (fun i => (i.zero, i.size, i.bytes)) = some (some (.int .i64 0), 1, 8) := by kernel_rfl

def evs (ts : List Tk) : List Nat := ts.map fun t => t.ev.toNat
theorem hyper_evs (ts : List Tk) : lcmN (evs ts) = lcmL ts := by simp [lcmN, lcmL, evs, List.foldl_map]
theorem evs_bound {ts : List Tk} (h : setB ts = true) : ∀ z ∈ evs ts, 1 ≤ z ∧ z ≤ 20 := by
  intro z hz
  unfold evs at hz
  rw [List.mem_map] at hz
  obtain ⟨t, ht, rfl⟩ := hz
  unfold setB at h
  simp at h
  have := h.2 t ht
  unfold Tk.ok validB at this
  simp at this
  omega
theorem ev_bound {ts : List Tk} {t : Tk} {k : Nat} (h : setB ts = true) (ht : ts[k]? = some t) : 1 ≤ t.ev ∧ t.ev ≤ 20 := by
  unfold setB at h
  simp at h
  have := h.2 t (List.mem_of_getElem? ht)
  unfold Tk.ok validB at this
  simp at this
  omega

def OwnI (w : World) (B : Nat) (v : Value) (zs : List Nat) : Prop := w.ownsRow B 3 1 v zs.length (zs.map fun z : Nat => Value.int .i64 (z : Int))

theorem OwnI.form {w : World} {B : Nat} {v : Value} {zs : List Nat} (h : OwnI w B v zs) : ∃ A c, v = .slice A zs.length c := by
  rcases h.2 with ⟨e, h0⟩ | ⟨g, cap, cur, e, _⟩
  · exact ⟨none, 0, by rw [e, h0]⟩
  · exact ⟨_, cap, e⟩
theorem OwnI.reads {w : World} {B : Nat} {A : Option Addr} {c : Nat} {zs : List Nat} (h : OwnI w B (.slice A zs.length c) zs) : Ints w w.heap.size A zs.length zs := by
  refine ⟨rfl, fun i z hz => ?_⟩
  have hi : i < zs.length := (List.getElem?_eq_some_iff.1 hz).1
  rcases h.2 with ⟨e, h0⟩ | ⟨g, cap, cur, e, _, hg, _⟩
  · omega
  · injection e with e1 e2 e3
    subst e1
    have hlt : g < w.heap.size := by
      rcases Nat.lt_or_ge g w.heap.size with hlt | hge
      · exact hlt
      · rw [Array.getElem?_eq_none hge] at hg; cases hg
    have := h.cells (g := g) rfl i (.int .i64 (z : Int)) (by rw [List.getElem?_map, hz]; rfl)
    have ea : (⟨g, 0, none⟩ : Addr).add i = ⟨g, i, none⟩ := by unfold Addr.add; split <;> simp_all
    rw [ea] at this
    exact ⟨g, 0, rfl, hlt, by rw [Nat.zero_add]; exact this⟩
theorem OwnI.snoc {w : World} {B : Nat} {v : Value} {zs : List Nat} {z : Nat} (h : w.ownsRow B 3 1 v (zs.length + 1) (zs.map (fun z : Nat => Value.int .i64 (z : Int)) ++ [.int .i64 (z : Int)])) : OwnI w B v (zs ++ [z]) := by
  unfold OwnI
  rw [List.map_append, List.length_append]
  simpa using h
theorem evs_take {ts : List Tk} {k : Nat} {t : Tk} (h : ts[k]? = some t) : evs (ts.take (k + 1)) = evs (ts.take k) ++ [t.ev.toNat] := by
  obtain ⟨hk, rfl⟩ := List.getElem?_eq_some_iff.1 h
  rw [List.take_succ_eq_append_getElem hk]
  simp only [evs, List.map_append, List.map_cons, List.map_nil]
theorem evs_len (ts : List Tk) : (evs ts).length = ts.length := by simp [evs]

set_option maxHeartbeats 1000000 in
theorem sGcd_same (w : World) (a b : Nat) (ha : a ≤ 4000000000) (hb : b ≤ 4000000000) :
    Calls Try.prog 107 #[.int .i64 a, .int .i64 b] w fun e w' => e = .returned (.int .i64 (Nat.gcd a b)) ∧ w' = w := by
  go_enter Try.func107, Try.ntmps107
  go_wp2
  go_loop [0, 1] (fun u v => ∃ x y : Nat, x ≤ 4000000000 ∧ y ≤ 4000000000 ∧ u = .int .i64 x ∧ v = .int .i64 y ∧ Hid (Nat.gcd x y = Nat.gcd a b)) (fun _ v => (intOf v).toNat)
  case atStart => exact ⟨a, b, ha, hb, rfl, rfl, by show _ = _; rfl⟩
  case round =>
    obtain ⟨x, y, hx, hy, rfl, rfl, hg⟩ := hrel
    by_cases h0 : y = 0
    · subst h0
      go_wp2
      go_ret
      exact ⟨by have h := hg.out; rw [Nat.gcd_zero_right] at h; rw [← h]; rfl, rfl⟩
    · have h0' : ((y : Int) != 0) = true := by simp; omega
      have h1 : 1 ≤ y := by omega
      have hm : x % y < y := Nat.mod_lt _ (by omega)
      have HG : Hid (Nat.gcd y (x % y) = Nat.gcd a b) := by show _ = _; rw [← hg.out, Nat.gcd_comm y, ← Nat.gcd_rec, Nat.gcd_comm]
      clear h0
      go_wp2
      go_round
      case rel => exact ⟨y, x % y, hy, by omega, rfl, by go_num, HG⟩
      case measure => simp [intOf]; omega

theorem lcmL_take {ts : List Tk} {k : Nat} {t : Tk} (h : ts[k]? = some t) : lcmL (ts.take (k + 1)) = Nat.lcm (lcmL (ts.take k)) t.ev.toNat := by
  rw [← hyper_evs, ← hyper_evs, evs_take h, lcmN_snoc]
theorem lcmL_bound {ts : List Tk} (hs : setB ts = true) (k : Nat) : 1 ≤ lcmL (ts.take k) ∧ lcmL (ts.take k) ≤ 3200000 := by
  rw [← hyper_evs]
  obtain ⟨m1, m2⟩ := lcmN_bound (evs (ts.take k)) (fun y hy => by
    refine evs_bound hs y ?_
    unfold evs at hy ⊢
    rw [List.mem_map] at hy ⊢
    obtain ⟨t, ht, e⟩ := hy
    exact ⟨t, List.mem_of_mem_take ht, e⟩)
  refine ⟨m1, Nat.le_trans m2 (Nat.le_trans (Nat.pow_le_pow_right (by omega) ?_) (by decide : 20 ^ 5 ≤ 3200000))⟩
  rw [evs_len, List.length_take]
  have := setB_len hs
  omega

end Go.Proofs.Ytjondedkgkohfaa
