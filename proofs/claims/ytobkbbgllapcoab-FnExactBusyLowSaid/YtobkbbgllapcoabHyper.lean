/- Contracts of HyperOf, in the program and in the reference: both return the least common multiple of the periods, 0 if the list is not valid. -/
import Derived.Test.YtobkbbgllapcoabSet
import Derived.Test.YtobkbbgllapcoabList
import Derived.Test.YtobkbbgllapcoabCrit
import Derived.Deep.QuietTactic
import Derived.BigQuiet
namespace Go.Proofs.Ytobkbbgllapcoab
open Go.RowKit

/-- The least common multiple of the periods of the first tasks. -/
def lcmL (ts : List Tk) : Nat := ts.foldl (fun m t => Nat.lcm m t.ev.toNat) 1
def hyperOf (ts : List Tk) : Nat := if setB ts then lcmL ts else 0

def GcdRes (a b : Nat) (w : World) (e : Ending) (w' : World) : Prop := e = .returned (.int .i64 (Nat.gcd a b)) ∧ Below w.heap.size w w'

set_option maxHeartbeats 1000000 in
theorem iGcd_any (w : World) (a b : Nat) (ha : a ≤ 4000000000) (hb : b ≤ 4000000000) :
    Calls Try.prog 95 #[.int .i64 a, .int .i64 b] w (GcdRes a b w) := by
  go_enter Try.func95, Try.ntmps95
  go_wp2
  go_loopw [0, 1] (fun u v wr => ∃ x y : Nat, x ≤ 4000000000 ∧ y ≤ 4000000000 ∧ u = .int .i64 x ∧ v = .int .i64 y ∧ Hid (Nat.gcd x y = Nat.gcd a b) ∧ Below w.heap.size w wr) (fun _ v _ => (intOf v).toNat)
  case atStart => exact ⟨a, b, ha, hb, rfl, rfl, by show _ = _; rfl, Below.refl _ _⟩
  case round =>
    obtain ⟨x, y, hx, hy, rfl, rfl, hg, hbl⟩ := hrel
    have HB := Lib.hid hbl
    clear hbl
    by_cases h0 : y = 0
    · subst h0
      go_wp2
      go_ret
      exact ⟨by have h := hg.out; rw [Nat.gcd_zero_right] at h; rw [← h]; rfl, HB.out⟩
    · have h0' : ((y : Int) != 0) = true := by simp; omega
      have h1 : 1 ≤ y := by omega
      have hm : x % y < y := Nat.mod_lt _ (by omega)
      have HG : Hid (Nat.gcd y (x % y) = Nat.gcd a b) := by show _ = _; rw [← hg.out, Nat.gcd_comm y, ← Nat.gcd_rec, Nat.gcd_comm]
      clear h0
      go_wp2
      go_quiet (fail)
      go_wp2
      go_roundw
      case rel => exact ⟨y, x % y, hy, by omega, rfl, by go_num, HG, bl_drewN HB.out _⟩
      case measure => simp [intOf]; omega

set_option maxHeartbeats 1000000 in
theorem sGcd_any (w : World) (a b : Nat) (ha : a ≤ 4000000000) (hb : b ≤ 4000000000) :
    Calls Try.prog 83 #[.int .i64 a, .int .i64 b] w (GcdRes a b w) := by
  go_enter Try.func83, Try.ntmps83
  go_wp2
  go_loopw [0, 1] (fun u v wr => ∃ x y : Nat, x ≤ 4000000000 ∧ y ≤ 4000000000 ∧ u = .int .i64 x ∧ v = .int .i64 y ∧ Hid (Nat.gcd x y = Nat.gcd a b) ∧ Below w.heap.size w wr) (fun _ v _ => (intOf v).toNat)
  case atStart => exact ⟨a, b, ha, hb, rfl, rfl, by show _ = _; rfl, Below.refl _ _⟩
  case round =>
    obtain ⟨x, y, hx, hy, rfl, rfl, hg, hbl⟩ := hrel
    have HB := Lib.hid hbl
    clear hbl
    by_cases h0 : y = 0
    · subst h0
      go_wp2
      go_ret
      exact ⟨by have h := hg.out; rw [Nat.gcd_zero_right] at h; rw [← h]; rfl, HB.out⟩
    · have h0' : ((y : Int) != 0) = true := by simp; omega
      have h1 : 1 ≤ y := by omega
      have hm : x % y < y := Nat.mod_lt _ (by omega)
      have HG : Hid (Nat.gcd y (x % y) = Nat.gcd a b) := by show _ = _; rw [← hg.out, Nat.gcd_comm y, ← Nat.gcd_rec, Nat.gcd_comm]
      clear h0
      go_wp2
      go_roundw
      case rel => exact ⟨y, x % y, hy, by omega, rfl, by go_num, HG, HB.out⟩
      case measure => simp [intOf]; omega

/-- A slice that reads as the integers zs. -/
structure Ints (w : World) (B : Nat) (A : Option Addr) (n : Nat) (zs : List Nat) : Prop where
  len : zs.length = n
  at_ : ∀ (i z : Nat), zs[i]? = some z → ∃ b o, A = some ⟨b, o, none⟩ ∧ b < B ∧ w.cell? ⟨b, o + i, none⟩ = some (.int .i64 (z : Int))

theorem Ints.below {w w' : World} {B : Nat} {A : Option Addr} {n : Nat} {zs : List Nat} (h : Ints w B A n zs) (hb : Below B w w') : Ints w' B A n zs :=
  ⟨h.len, fun i z hz => by
    obtain ⟨b, o, e, hbB, hc⟩ := h.at_ i z hz
    exact ⟨b, o, e, hbB, (hb.cell (p := ⟨b, o + i, none⟩) hbB).trans hc⟩⟩

def lcmN (zs : List Nat) : Nat := zs.foldl Nat.lcm 1
theorem lcmN_snoc (zs : List Nat) (z : Nat) : lcmN (zs ++ [z]) = Nat.lcm (lcmN zs) z := by simp [lcmN, List.foldl_append]
theorem lcmN_take {zs : List Nat} {k z : Nat} (h : zs[k]? = some z) : lcmN (zs.take (k + 1)) = Nat.lcm (lcmN (zs.take k)) z := by
  obtain ⟨hk, rfl⟩ := List.getElem?_eq_some_iff.1 h
  rw [List.take_succ_eq_append_getElem hk, lcmN_snoc]

theorem lcmN_bound (zs : List Nat) (hz : ∀ z ∈ zs, 1 ≤ z ∧ z ≤ 20) : 1 ≤ lcmN zs ∧ lcmN zs ≤ 20 ^ zs.length := by
  have key : ∀ (zs : List Nat) (m b : Nat), (∀ z ∈ zs, 1 ≤ z ∧ z ≤ 20) → 1 ≤ m → m ≤ b → 1 ≤ zs.foldl Nat.lcm m ∧ zs.foldl Nat.lcm m ≤ b * 20 ^ zs.length := by
    intro zs
    induction zs with
    | nil => intro m b _ h1 h2; simpa using ⟨h1, h2⟩
    | cons z zs ih =>
      intro m b hz h1 h2
      obtain ⟨z1, z2⟩ := hz z (by simp)
      have l1 : 1 ≤ Nat.lcm m z := Nat.lcm_pos (by omega) (by omega)
      have l2 : Nat.lcm m z ≤ b * 20 := Nat.le_trans (Nat.le_of_dvd (Nat.mul_pos (by omega) (by omega)) (Nat.lcm_dvd_mul m z)) (Nat.mul_le_mul h2 z2)
      obtain ⟨a1, a2⟩ := ih (Nat.lcm m z) (b * 20) (fun y hy => hz y (by simp [hy])) l1 l2
      refine ⟨a1, ?_⟩
      rw [List.length_cons, Nat.pow_succ, Nat.mul_comm _ 20, ← Nat.mul_assoc]
      exact a2
  have := key zs 1 1 hz (by omega) (by omega)
  simpa [lcmN] using this

theorem lcm_impl (m z : Nat) : m * (z / Nat.gcd m z) = Nat.lcm m z := by
  rw [Nat.lcm, Nat.mul_div_assoc _ (Nat.gcd_dvd_right m z)]
theorem lcm_spec (m z : Nat) : m / Nat.gcd m z * z = Nat.lcm m z := by
  rw [Nat.lcm, Nat.mul_comm m z, Nat.mul_div_assoc _ (Nat.gcd_dvd_left m z), Nat.mul_comm]

def NumRes (m : Nat) (w : World) (e : Ending) (w' : World) : Prop := e = .returned (.int .i64 (m : Int)) ∧ Below w.heap.size w w'

set_option maxHeartbeats 1000000 in
theorem leastMultiple_any (w : World) (A : Option Addr) (n c : Nat) (zs : List Nat) (h : Ints w w.heap.size A n zs) (hn : n ≤ 5) (hz : ∀ z ∈ zs, 1 ≤ z ∧ z ≤ 20) :
    Calls Try.prog 82 #[.slice A n c] w (NumRes (lcmN zs) w) := by
  have H := Lib.hid h
  have HL := Lib.hid h.len
  have HZ := Lib.hid hz
  clear h hz
  go_enter Try.func82, Try.ntmps82
  go_wp2
  go_loopw [3, 8] (fun m i wr => ∃ k : Nat, k ≤ n ∧ i = .int .i64 k ∧ m = .int .i64 (lcmN (zs.take k) : Nat) ∧ Below w.heap.size w wr) (fun _ i _ => n - (intOf i).toNat)
  case atStart => exact ⟨0, Nat.zero_le _, rfl, rfl, Below.refl _ _⟩
  case round =>
    obtain ⟨k, hk, rfl, rfl, hb⟩ := hrel
    have HB := Lib.hid hb
    clear hb
    by_cases hlt : k < n
    · obtain ⟨z, hz⟩ : ∃ z, zs[k]? = some z := ⟨zs[k]'(by rw [HL.out]; exact hlt), List.getElem?_eq_getElem _⟩
      obtain ⟨z1, z2⟩ := HZ.out z (List.mem_of_getElem? hz)
      obtain ⟨m1, m2⟩ := lcmN_bound (zs.take k) (fun y hy => HZ.out y (List.mem_of_mem_take hy))
      have m3 : lcmN (zs.take k) ≤ 3200000 := Nat.le_trans m2 (Nat.le_trans (Nat.pow_le_pow_right (by omega) (by rw [List.length_take]; omega)) (by decide : 20 ^ 5 ≤ 3200000))
      have HN := Lib.hid (lcmN_take hz)
      obtain ⟨b, o, rfl, hbl, c0⟩ := (H.out.below HB.out).at_ k z hz
      clear hz m2
      generalize lcmN (zs.take k) = m at *
      go_wp2_with fail
      refine (iGcd_any _ m z (by omega) (by omega)).mono ?_
      rintro e w2 ⟨rfl, hb2⟩
      have HB2 := Lib.hid (bl_trans HB.out hb2)
      clear hb2
      have g1 : 1 ≤ Nat.gcd m z := Nat.gcd_pos_of_pos_left _ (by omega)
      have HE := Lib.hid (lcm_impl m z)
      have hle : m * (z / Nat.gcd m z) ≤ 3200000 * 20 := Nat.mul_le_mul m3 (Nat.le_trans (Nat.div_le_self _ _) z2)
      generalize Nat.gcd m z = g at *
      have hq : (m : Int) * ((z : Int) / (g : Int)) = ((m * (z / g) : Nat) : Int) := by simp
      have hq0 : 0 ≤ (m : Int) * ((z : Int) / (g : Int)) := by rw [hq]; omega
      have hq1 : (m : Int) * ((z : Int) / (g : Int)) ≤ 64000000 := by rw [hq]; omega
      have hd0 : 0 ≤ (z : Int) / (g : Int) := Int.ediv_nonneg (by omega) (by omega)
      have hd1 : (z : Int) / (g : Int) ≤ 20 := Int.le_trans (Int.ediv_le_self _ (by omega)) (by omega)
      have HQ := Lib.hid hq
      clear hq
      go_wp2
      go_roundw
      case rel => exact ⟨k + 1, by omega, by go_num, by rw [HN.out, ← HE.out, ← HQ.out], HB2.out⟩
      case measure => simp [intOf]; omega
    · obtain rfl : k = n := by omega
      go_wp2
      go_ret
      exact ⟨by rw [List.take_of_length_le (by rw [HL.out]; omega)]; rfl, HB.out⟩

theorem info_int : (Try.prog.info? 3).map (fun i => (i.zero, i.size, i.bytes)) = some (some (.int .i64 0), 1, 8) := by kernel_rfl

def evs (ts : List Tk) : List Nat := ts.map fun t => t.ev.toNat
theorem hyper_evs (ts : List Tk) : lcmN (evs ts) = lcmL ts := by simp [lcmN, lcmL, evs, List.foldl_map]
theorem evs_bound {ts : List Tk} (h : setB ts = true) : ∀ z ∈ evs ts, 1 ≤ z ∧ z ≤ 20 := by
  intro z hz
  unfold evs at hz
  rw [List.mem_map] at hz
  obtain ⟨t, ht, rfl⟩ := hz
  unfold setB at h
  simp at h
  have := h.2 t ht
  unfold Tk.ok validB at this
  simp at this
  omega
theorem ev_bound {ts : List Tk} {t : Tk} {k : Nat} (h : setB ts = true) (ht : ts[k]? = some t) : 1 ≤ t.ev ∧ t.ev ≤ 20 := by
  unfold setB at h
  simp at h
  have := h.2 t (List.mem_of_getElem? ht)
  unfold Tk.ok validB at this
  simp at this
  omega

def OwnI (w : World) (B : Nat) (v : Value) (zs : List Nat) : Prop := w.ownsRow B 3 1 v zs.length (zs.map fun z : Nat => Value.int .i64 (z : Int))

theorem OwnI.form {w : World} {B : Nat} {v : Value} {zs : List Nat} (h : OwnI w B v zs) : ∃ A c, v = .slice A zs.length c := by
  rcases h.2 with ⟨e, h0⟩ | ⟨g, cap, cur, e, _⟩
  · exact ⟨none, 0, by rw [e, h0]⟩
  · exact ⟨_, cap, e⟩
theorem OwnI.reads {w : World} {B : Nat} {A : Option Addr} {c : Nat} {zs : List Nat} (h : OwnI w B (.slice A zs.length c) zs) : Ints w w.heap.size A zs.length zs := by
  refine ⟨rfl, fun i z hz => ?_⟩
  have hi : i < zs.length := (List.getElem?_eq_some_iff.1 hz).1
  rcases h.2 with ⟨e, h0⟩ | ⟨g, cap, cur, e, _, hg, _⟩
  · omega
  · injection e with e1 e2 e3
    subst e1
    have hlt : g < w.heap.size := by
      rcases Nat.lt_or_ge g w.heap.size with hlt | hge
      · exact hlt
      · rw [Array.getElem?_eq_none hge] at hg; cases hg
    have := h.cells (g := g) rfl i (.int .i64 (z : Int)) (by rw [List.getElem?_map, hz]; rfl)
    have ea : (⟨g, 0, none⟩ : Addr).add i = ⟨g, i, none⟩ := by unfold Addr.add; split <;> simp_all
    rw [ea] at this
    exact ⟨g, 0, rfl, hlt, by rw [Nat.zero_add]; exact this⟩
theorem OwnI.snoc {w : World} {B : Nat} {v : Value} {zs : List Nat} {z : Nat} (h : w.ownsRow B 3 1 v (zs.length + 1) (zs.map (fun z : Nat => Value.int .i64 (z : Int)) ++ [.int .i64 (z : Int)])) : OwnI w B v (zs ++ [z]) := by
  unfold OwnI
  rw [List.map_append, List.length_append]
  simpa using h
theorem evs_take {ts : List Tk} {k : Nat} {t : Tk} (h : ts[k]? = some t) : evs (ts.take (k + 1)) = evs (ts.take k) ++ [t.ev.toNat] := by
  obtain ⟨hk, rfl⟩ := List.getElem?_eq_some_iff.1 h
  rw [List.take_succ_eq_append_getElem hk]
  simp only [evs, List.map_append, List.map_cons, List.map_nil]
theorem evs_len (ts : List Tk) : (evs ts).length = ts.length := by simp [evs]

set_option maxHeartbeats 1000000 in
theorem iHyperOf_any (w : World) (A : Option Addr) (n c : Nat) (ts : List Tk) (h : Tks w w.heap.size A n ts) (hn : n ≤ 1048576) :
    Calls Try.prog 55 #[.slice A n c] w (NumRes (hyperOf ts) w) := by
  obtain ⟨i0, hi, hz0, hz1, hz2⟩ := info_parts info_int
  have H := Lib.hid h
  have HL := Lib.hid h.len
  clear h
  cases hs : setB ts
  · go_enter Try.func55, Try.ntmps55
    go_wp2_with (go_at_call 22; refine (iSetValid_any _ _ _ _ ts H.out hn).mono ?_; rintro e w1 ⟨rfl, hb⟩)
    go_ret
    exact ⟨by simp [hyperOf, hs], hb⟩
  have h5 : n ≤ 5 := by have := setB_len hs; rw [HL.out] at this; exact this
  go_enter Try.func55, Try.ntmps55
  go_wp2_with fail
  refine (iSetValid_any _ _ _ _ ts H.out hn).mono ?_
  rintro e w1 ⟨rfl, hb⟩
  have HB1 := Lib.hid hb
  have hsz1 : w.heap.size ≤ w1.heap.size := hb.size
  have HS := Lib.hid hs
  clear hb
  go_wp2_with (at_make; refine wpList_make_own _ rfl _ _ 42 rfl w.heap.size 3 i0 _ 1 Try.underlying42 hi hz0 hz1 .i64 .i64 _ n rfl rfl rfl (by rw [hz2]; omega) (by unfold maxLen; omega) hsz1 ?_; intro w2 hown0 hgrow0)
  have HO0 := Lib.hid (show OwnI w2 w.heap.size _ [] from hown0)
  have HB2 := Lib.hid (HB1.out.grown hgrow0 hsz1 (fun k e => by cases e))
  clear hown0 hgrow0 hs
  go_loopw [3, 14] (fun v i wr => ∃ k : Nat, k ≤ n ∧ i = .int .i64 k ∧ OwnI wr w.heap.size v (evs (ts.take k)) ∧ Below w.heap.size w wr) (fun _ i _ => n - (intOf i).toNat)
  case atStart => exact ⟨0, Nat.zero_le _, rfl, HO0.out, HB2.out⟩
  case round =>
    obtain ⟨k, hk, rfl, ho, hb⟩ := hrel
    have HO := Lib.hid ho
    have HB := Lib.hid hb
    have hsz : w.heap.size ≤ wr.heap.size := hb.size
    clear ho hb
    by_cases hlt : k < n
    · obtain ⟨t, ht⟩ : ∃ t, ts[k]? = some t := ⟨ts[k]'(by rw [HL.out]; exact hlt), List.getElem?_eq_getElem _⟩
      obtain ⟨b, o, rfl, hbl, c0, c1, c2, c3, c4⟩ := (H.out.below HB.out).at_ k t ht
      obtain ⟨e1, e2⟩ := ev_bound HS.out ht
      have HT := Lib.hid (evs_take ht)
      obtain ⟨lo, hi', du, ev, cr⟩ := t
      dsimp only at c0 c1 c2 c3 c4 e1 e2
      obtain ⟨z, rfl⟩ := Int.eq_ofNat_of_zero_le (show 0 ≤ ev by omega)
      have HT' : Hid (evs (ts.take (k + 1)) = evs (ts.take k) ++ [z]) := HT.out
      clear ht
      have hlen : (evs (ts.take k)).length ≤ 5 := by rw [evs_len, List.length_take]; omega
      have b1 : (evs (ts.take k)).length + 1 ≤ maxLen := by unfold maxLen; omega
      have b2 : ((evs (ts.take k)).length + 1) * 8 ≤ 140737488355328 := by omega
      go_wp2_with (at_builtin; refine wpList_append_own _ rfl (.tmp 18) (.tmp 21) 42 rfl w.heap.size 3 i0 _ 1 8 Try.underlying42 hi hz0 hz1 hz2 rfl (by decide) _ (evs (ts.take k)).length ((evs (ts.take k)).map fun z : Nat => Value.int .i64 (z : Int)) rfl ((World.ownsRow.alloc HO.out _).alloc _) ⟨wr.heap.size + 1, 0, none⟩ 1 1 [.int .i64 (z : Int)] rfl rfl (by have hx := cell_one_new (wr.alloc (.cells #[.int .i64 lo, .int .i64 hi', .int .i64 du, .int .i64 (z : Int), .bool cr] 32)) (.int .i64 (z : Int)) 3; simpa using hx) (by intro u hu; simp at hu; subst hu; rfl) b1 b2 (by simp; omega) ?_; intro v' w4 hown' hgrow _)
      have HO4 := Lib.hid (OwnI.snoc hown')
      have HB4 := Lib.hid ((bl_alloc (bl_alloc HB.out _) _).grown hgrow (by simp; omega) (fun k e => (World.ownsRow.lt HO.out k e).1))
      clear hown' hgrow hlen b1 b2
      go_wp2
      go_roundw
      case rel => exact ⟨k + 1, by omega, by go_num, by rw [HT'.out]; exact HO4.out, HB4.out⟩
      case measure => simp [intOf]; omega
    · obtain rfl : k = n := by omega
      have hev : evs (ts.take k) = evs ts := by rw [List.take_of_length_le (by rw [HL.out]; omega)]
      obtain ⟨A3, c3, rfl⟩ := HO.out.form
      have ho : OwnI wr w.heap.size (.slice A3 (evs (ts.take k)).length c3) (evs (ts.take k)) := HO.out
      rw [hev] at ho
      have hr := ho.reads
      have hl : (evs (ts.take k)).length = (evs ts).length := by rw [hev]
      have HR := Lib.hid hr
      have HLL := Lib.hid hl
      clear hr hl hev ho
      go_wp2_with fail
      refine (leastMultiple_any wr A3 _ c3 (evs ts) (by rw [HLL.out]; exact HR.out) (by rw [HLL.out, evs_len, HL.out]; omega) (evs_bound HS.out)).mono ?_
      rintro e w5 ⟨rfl, hb⟩
      go_wp2
      go_ret
      exact ⟨by simp [hyperOf, HS.out, hyper_evs], bl_trans HB.out hb⟩

set_option maxHeartbeats 1000000 in
theorem sGcd_same (w : World) (a b : Nat) (ha : a ≤ 4000000000) (hb : b ≤ 4000000000) :
    Calls Try.prog 83 #[.int .i64 a, .int .i64 b] w fun e w' => e = .returned (.int .i64 (Nat.gcd a b)) ∧ w' = w := by
  go_enter Try.func83, Try.ntmps83
  go_wp2
  go_loop [0, 1] (fun u v => ∃ x y : Nat, x ≤ 4000000000 ∧ y ≤ 4000000000 ∧ u = .int .i64 x ∧ v = .int .i64 y ∧ Hid (Nat.gcd x y = Nat.gcd a b)) (fun _ v => (intOf v).toNat)
  case atStart => exact ⟨a, b, ha, hb, rfl, rfl, by show _ = _; rfl⟩
  case round =>
    obtain ⟨x, y, hx, hy, rfl, rfl, hg⟩ := hrel
    by_cases h0 : y = 0
    · subst h0
      go_wp2
      go_ret
      exact ⟨by have h := hg.out; rw [Nat.gcd_zero_right] at h; rw [← h]; rfl, rfl⟩
    · have h0' : ((y : Int) != 0) = true := by simp; omega
      have h1 : 1 ≤ y := by omega
      have hm : x % y < y := Nat.mod_lt _ (by omega)
      have HG : Hid (Nat.gcd y (x % y) = Nat.gcd a b) := by show _ = _; rw [← hg.out, Nat.gcd_comm y, ← Nat.gcd_rec, Nat.gcd_comm]
      clear h0
      go_wp2
      go_round
      case rel => exact ⟨y, x % y, hy, by omega, rfl, by go_num, HG⟩
      case measure => simp [intOf]; omega

theorem lcmL_take {ts : List Tk} {k : Nat} {t : Tk} (h : ts[k]? = some t) : lcmL (ts.take (k + 1)) = Nat.lcm (lcmL (ts.take k)) t.ev.toNat := by
  rw [← hyper_evs, ← hyper_evs, evs_take h, lcmN_snoc]
theorem lcmL_bound {ts : List Tk} (hs : setB ts = true) (k : Nat) : 1 ≤ lcmL (ts.take k) ∧ lcmL (ts.take k) ≤ 3200000 := by
  rw [← hyper_evs]
  obtain ⟨m1, m2⟩ := lcmN_bound (evs (ts.take k)) (fun y hy => by
    refine evs_bound hs y ?_
    unfold evs at hy ⊢
    rw [List.mem_map] at hy ⊢
    obtain ⟨t, ht, e⟩ := hy
    exact ⟨t, List.mem_of_mem_take ht, e⟩)
  refine ⟨m1, Nat.le_trans m2 (Nat.le_trans (Nat.pow_le_pow_right (by omega) ?_) (by decide : 20 ^ 5 ≤ 3200000))⟩
  rw [evs_len, List.length_take]
  have := setB_len hs
  omega

set_option maxHeartbeats 1000000 in
theorem sHyperOf_any (w : World) (A : Option Addr) (n c : Nat) (ts : List Tk) (h : Tks w w.heap.size A n ts) (hn : n ≤ 1048576) :
    Calls Try.prog 58 #[.slice A n c] w (NumRes (hyperOf ts) w) := by
  have H := Lib.hid h
  have HL := Lib.hid h.len
  clear h
  cases hs : setB ts
  · go_enter Try.func58, Try.ntmps58
    go_wp2_with (go_at_call 50; refine (sSetValid_any _ _ _ _ ts H.out hn).mono ?_; rintro e w1 ⟨rfl, hb⟩)
    go_ret
    exact ⟨by simp [hyperOf, hs], hb⟩
  have h5 : n ≤ 5 := by have := setB_len hs; rw [HL.out] at this; exact this
  go_enter Try.func58, Try.ntmps58
  go_wp2_with fail
  refine (sSetValid_any _ _ _ _ ts H.out hn).mono ?_
  rintro e w1 ⟨rfl, hb⟩
  have HB1 := Lib.hid hb
  clear hb
  go_wp2
  have HS := Lib.hid hs
  clear hs
  go_loopw [3, 4] (fun m i wr => ∃ k : Nat, k ≤ n ∧ i = .int .i64 k ∧ m = .int .i64 (lcmL (ts.take k) : Nat) ∧ Below w.heap.size w wr) (fun _ i _ => n - (intOf i).toNat)
  case atStart => exact ⟨0, Nat.zero_le _, rfl, rfl, HB1.out⟩
  case round =>
    obtain ⟨k, hk, rfl, rfl, hb⟩ := hrel
    have HB := Lib.hid hb
    clear hb
    by_cases hlt : k < n
    · obtain ⟨t, ht⟩ : ∃ t, ts[k]? = some t := ⟨ts[k]'(by rw [HL.out]; exact hlt), List.getElem?_eq_getElem _⟩
      obtain ⟨b, o, rfl, hbl, c0, c1, c2, c3, c4⟩ := (H.out.below HB.out).at_ k t ht
      obtain ⟨e1, e2⟩ := ev_bound HS.out ht
      obtain ⟨m1, m3⟩ := lcmL_bound HS.out k
      have HT := Lib.hid (lcmL_take ht)
      obtain ⟨lo, hi', du, ev, cr⟩ := t
      dsimp only at c0 c1 c2 c3 c4 e1 e2
      obtain ⟨z, rfl⟩ := Int.eq_ofNat_of_zero_le (show 0 ≤ ev by omega)
      have HN : Hid (lcmL (ts.take (k + 1)) = Nat.lcm (lcmL (ts.take k)) z) := HT.out
      clear ht
      generalize lcmL (ts.take k) = m at *
      have z1 : 1 ≤ z := by omega
      have z2 : z ≤ 20 := by omega
      have g1 : 1 ≤ Nat.gcd m z := Nat.gcd_pos_of_pos_left _ (by omega)
      have HE := Lib.hid (lcm_spec m z)
      have HC := Lib.hid (fun W : World => sGcd_same W m z (by omega) (by omega))
      have hle : m / Nat.gcd m z * z ≤ 3200000 * 20 := Nat.mul_le_mul (Nat.le_trans (Nat.div_le_self _ _) m3) z2
      generalize Nat.gcd m z = g at *
      have hq : (m : Int) / (g : Int) * (z : Int) = ((m / g * z : Nat) : Int) := by simp
      have hq0 : 0 ≤ (m : Int) / (g : Int) * (z : Int) := by rw [hq]; omega
      have hq1 : (m : Int) / (g : Int) * (z : Int) ≤ 64000000 := by rw [hq]; omega
      have hd0 : 0 ≤ (m : Int) / (g : Int) := Int.ediv_nonneg (by omega) (by omega)
      have hd1 : (m : Int) / (g : Int) ≤ 3200000 := Int.le_trans (Int.ediv_le_self _ (by omega)) (by omega)
      have i1 : (0 : Int) ≤ (k : Int) := by omega
      have i2 : (k : Int) < (n : Int) := by omega
      have HQ := Lib.hid hq
      clear hq
      go_wp2
      go_quiet ((go_at_call 83; exact Calls.quiet_of_same (HC.out _)))
      go_wp2
      go_roundw
      case rel => exact ⟨k + 1, by omega, by go_num, by rw [HN.out, ← HE.out, ← HQ.out], bl_drewN HB.out _⟩
      case measure => simp [intOf]; omega
    · obtain rfl : k = n := by omega
      go_wp2
      go_ret
      exact ⟨by rw [List.take_of_length_le (by rw [HL.out]; omega)]; simp [hyperOf, HS.out], HB.out⟩

end Go.Proofs.Ytobkbbgllapcoab
