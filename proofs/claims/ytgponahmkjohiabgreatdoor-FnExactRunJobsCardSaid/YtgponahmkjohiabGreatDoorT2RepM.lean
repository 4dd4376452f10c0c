import Derived.Lib.Mul64
import Derived.Laws.Bits64b
import Derived.Laws.CopyOwn
import Derived.Deep.LoopGhost
import Derived.Deep.RegionLaw
import Derived.BigRegion
import Derived.Test.YtgponahmkjohiabGreatDoorT2PmA
namespace Go.Proofs.YtgponahmkjohiabGreatDoor
open Go.RowKit
set_option linter.unusedVariables false
theorem rp_mask (a : Nat) (ha : a < 18446744073709551616) : bits .and .u64 (a : Int) 4294967295 = ((a % 4294967296 : Nat) : Int) := by
  have h := bits_and_u64_nat a 4294967295 ha (by omega)
  rw [show a &&& 4294967295 = a % 4294967296 from Nat.and_two_pow_sub_one_eq_mod a 32] at h
  exact h
theorem rp_div (a : Nat) : (a : Int) / 4294967296 = ((a / 4294967296 : Nat) : Int) := by omega
theorem rp_mul (a b : Nat) : (a : Int) * (b : Int) = ((a * b : Nat) : Int) := (Int.natCast_mul a b).symm
theorem rp_add (a b : Nat) : (a : Int) + (b : Int) = ((a + b : Nat) : Int) := (Int.natCast_add a b).symm
theorem rp_wrap (a : Nat) (ha : a < 18446744073709551616) : IntKind.u64.wrap (a : Int) = (a : Int) := by rw [IntKind.wrap_u64]; omega
theorem rp_wrapM (a : Nat) : IntKind.u64.wrap (a : Int) = ((a % 18446744073709551616 : Nat) : Int) := by rw [IntKind.wrap_u64]; omega
set_option maxHeartbeats 2000000 in
theorem mul64_is (x y : Nat) (hx : x < 18446744073709551616) (hy : y < 18446744073709551616) (w : World) :
    Calls Tryz.prog 154 #[.int .u64 x, .int .u64 y] w fun e w' => e = .returned (.tuple #[.int .u64 ((x * y / 18446744073709551616 : Nat) : Int), .int .u64 ((x * y % 18446744073709551616 : Nat) : Int)]) ∧ w = w' := by
  obtain ⟨bd, bt, bw, hhi⟩ := Lib.mul64_hi x y hx hy
  have ba := Lib.half_mul_le (a := x / 4294967296) (b := y / 4294967296) (by omega) (by omega)
  have bb := Lib.half_mul_le (a := x / 4294967296) (b := y % 4294967296) (by omega) (by omega)
  have bc := Lib.half_mul_le (a := x % 4294967296) (b := y / 4294967296) (by omega) (by omega)
  have ba' : x / 4294967296 * (y / 4294967296) < 18446744073709551616 := by omega
  have bb' : x / 4294967296 * (y % 4294967296) < 18446744073709551616 := by omega
  have bc' : x % 4294967296 * (y / 4294967296) < 18446744073709551616 := by omega
  have bh1 : x / 4294967296 * (y / 4294967296) + (x / 4294967296 * (y % 4294967296) + x % 4294967296 * (y % 4294967296) / 4294967296) / 4294967296 < 18446744073709551616 := by omega
  have bh : x / 4294967296 * (y / 4294967296) + (x / 4294967296 * (y % 4294967296) + x % 4294967296 * (y % 4294967296) / 4294967296) / 4294967296 + ((x / 4294967296 * (y % 4294967296) + x % 4294967296 * (y % 4294967296) / 4294967296) % 4294967296 + x % 4294967296 * (y / 4294967296)) / 4294967296 < 18446744073709551616 := by omega
  go_enter Tryz.func154, Tryz.ntmps154
  go_wp2
  simp only [rp_mask x hx, rp_mask y hy, rp_div, rp_mul, rp_add, rp_wrap _ bd, rp_wrap _ bb', rp_wrap _ bt, rp_mask _ bt, rp_wrap _ bc', rp_wrap _ bw, rp_wrap _ ba', rp_wrap _ bh1, rp_wrap _ bh, rp_wrapM (x * y)]
  rw [hhi]
  go_ret2
  exact ⟨rfl, rfl⟩
theorem mul_is (x y : Nat) (hx : x < 18446744073709551616) (hy : y < 18446744073709551616) (w : World) :
    Calls Tryz.prog 129 #[.int .u64 x, .int .u64 y] w fun e w' => e = .returned (.tuple #[.int .u64 ((x * y / 18446744073709551616 : Nat) : Int), .int .u64 ((x * y % 18446744073709551616 : Nat) : Int)]) ∧ w = w' := by
  have c64 := mul64_is x y hx hy w
  go_enter Tryz.func129, Tryz.ntmps129
  go_wp2_with (go_at_call 154; refine c64.mono ?_; rintro e w' ⟨rfl, rfl⟩)
  go_ret2
  exact ⟨rfl, rfl⟩
theorem mul_one_is (y : Nat) (hy : y ≤ 60) (w : World) :
    Calls Tryz.prog 129 #[.int .u64 1, .int .u64 y] w fun e w' => e = .returned (.tuple #[.int .u64 0, .int .u64 (y : Int)]) ∧ w = w' := by
  have h := mul_is 1 y (by omega) (by omega) w
  have e1 : 1 * y / 18446744073709551616 = 0 := by omega
  have e2 : 1 * y % 18446744073709551616 = y := by omega
  rw [e1, e2] at h
  exact h
/-- What Repeat leaves: a list of the call's own. -/
def RepRes (n : Nat) (w : World) (e : Ending) (w' : World) : Prop :=
  ∃ g : Nat, e = .returned (.slice (some ⟨g, 0, none⟩) n n) ∧ OwnZ w' w.heap.size (.slice (some ⟨g, 0, none⟩) n n) (List.replicate n (-1)) ∧ Below w.heap.size w w'
def rowR (n m : Nat) : List Value := List.replicate m (Value.int .i64 (-1)) ++ List.replicate (n - m) (Value.int .i64 0)
theorem rowR_len {n m : Nat} (h : m ≤ n) : (rowR n m).length = n := by unfold rowR; simp; omega
theorem rowR_one {n m : Nat} (h : m ≤ n) : (List.replicate n (Value.int .i64 0)) = rowR n 0 := by unfold rowR; simp
theorem rowR_splice {n m j : Nat} (h : m + j ≤ n) : splice (rowR n m) m (List.replicate j (Value.int .i64 (-1))) = rowR n (m + j) := by
  unfold splice rowR
  rw [List.take_append_of_le_length (by simp), List.length_replicate, List.take_of_length_le (by simp), List.drop_append, List.length_replicate, List.drop_eq_nil_of_le (by simp), List.nil_append, ← List.append_assoc, List.replicate_append_replicate, List.drop_replicate]
  congr 2
  omega
theorem made_zero (n : Nat) : madeCells (Value.cells (.int .i64 0)) n = (List.replicate n (Value.int .i64 0)).toArray := by
  refine Array.ext' ?_
  show ((Array.range n).map _).toList = _
  rw [Array.toList_map, Array.toList_range]
  have : ∀ i : Nat, (Value.cells (.int .i64 0))[i % (Value.cells (.int .i64 0)).size]! = Value.int .i64 0 := fun i => by
    have e : (Value.cells (.int .i64 0)) = #[.int .i64 0] := rfl
    rw [e]
    have e2 : i % (#[Value.int .i64 0] : Array Value).size = 0 := Nat.mod_one i
    rw [e2]
    rfl
  rw [show (fun x => (Value.cells (.int .i64 0))[x % (Value.cells (.int .i64 0)).size]!) = fun _ => Value.int .i64 0 from funext this]
  refine List.ext_getElem? fun i => ?_
  simp [List.getElem?_replicate]
  by_cases h : i < n <;> simp [h]
set_option maxRecDepth 100000 in
set_option maxHeartbeats 4000000 in
theorem iRepeat_is (w : World) (X n : Nat) (hX : Blk w X 3 #[.int .i64 (-1)]) (hn : n ≤ 60) :
    Calls Tryz.prog 89 #[.slice (some ⟨X, 0, none⟩) 1 1, .int .i64 (n : Int)] w (RepRes n w) := by
  obtain ⟨i1, hi1, hy0, hy1, hy2⟩ := info_parts info_int
  have hmk := run_make (P := Tryz.prog) w 27 3 i1 _ Tryz.underlying27 hi1 hy0 .i64 .i64 (n : Int) (n : Int) (by omega) (Int.le_refl _) (by rw [hy2]; omega) (by omega)
  rw [Int.toNat_natCast, hy1, Nat.mul_one, made_zero] at hmk
  obtain ⟨W1, hW1⟩ : ∃ W1, w.alloc (.cells (List.replicate n (Value.int .i64 0)).toArray 3) = W1 := ⟨_, rfl⟩
  rw [hW1] at hmk
  have hb1 : Below w.heap.size w W1 := hW1 ▸ bl_alloc (Below.refl _ _) _
  have hg1 : Blk W1 w.heap.size 3 (List.replicate n (Value.int .i64 0)).toArray := hW1 ▸ Blk.new w _ _
  rw [rowR_one (Nat.zero_le n)] at hg1
  have hX1 := hX.below hb1 hX.lt
  have c0 : W1.cell? ⟨X, 0, none⟩ = some (.int .i64 (-1)) := hX1.cell 0
  have HMUL := Lib.hid (mul_one_is n hn w)
  have HB1 := Lib.hid hb1
  have HG1 := Lib.hid hg1
  have HX1 := Lib.hid hX1
  have n0 : (0 : Int) ≤ (n : Int) := by omega
  have n1 : ¬ (n : Int) < 0 := by omega
  have n2 : ¬ (9223372036854775807 : Int) < (n : Int) := by omega
  have n2' : decide ((9223372036854775807 : Int) < (n : Int)) = false := decide_eq_false n2
  have n3 : IntKind.u64.wrap (n : Int) = (n : Int) := rp_wrap n (by omega)
  have n4 : IntKind.i64.wrap (n : Int) = (n : Int) := IntWalk.i64_in _ (by omega)
  clear hX hb1 hg1 hX1 hW1
  go_enter Tryz.func89, Tryz.ntmps89
  go_wp2_with fail
  refine HMUL.out.mono ?_
  rintro e w2 ⟨rfl, rfl⟩
  obtain ⟨cs, hcs⟩ : ∃ cs, cs = List.replicate (min 1 n) (Value.int .i64 (-1)) := ⟨_, rfl⟩
  have hcl : cs.length = min 1 n := by rw [hcs, List.length_replicate]
  have hc1 : ∀ u ∈ cs, u = Value.int .i64 (-1) := fun u hu => by rw [hcs] at hu; exact (List.mem_replicate.1 hu).2
  have HCS := Lib.hid hcs
  have HCL := Lib.hid hcl
  have HC1 := Lib.hid hc1
  have hcn : cs.length ≤ n := by omega
  have hcp : 0 < n → 0 < cs.length := by omega
  have HCN := Lib.hid hcn
  have HCP := Lib.hid hcp
  clear hcs hcl hc1 HMUL hcn hcp
  have HSRC : Hid (∀ j v, cs[j]? = some v → W1.cell? ((⟨X, 0, none⟩ : Addr).add j) = some v) := Lib.hid (fun j v hv => by
    have hj : j < cs.length := (List.getElem?_eq_some_iff.1 hv).1
    have h0 : j = 0 := by have := HCL.out; omega
    subst h0
    rw [add_at, HC1.out v (List.mem_of_getElem? hv)]
    exact HX1.out.cell 0)
  have HMIN : Hid (cs.length = Nat.min 1 n) := Lib.hid HCL.out
  have HFIT : Hid (0 + cs.length ≤ (rowR n 0).length) := Lib.hid (by rw [rowR_len (Nat.zero_le n)]; have := HCN.out; omega)
  have HONE : Hid (∀ u ∈ cs, u.oneCell' = true) := Lib.hid (fun u hu => by rw [HC1.out u hu]; rfl)
  have HSZ : (Tryz.prog.info? 3).map (·.size) = some 1 := by rw [hi1]; exact congrArg some hy1
  have HSZZ := Lib.hid HSZ
  have HSPL : Hid (splice (rowR n 0) 0 cs = rowR n cs.length) := Lib.hid (by
    have e : cs.length = min 1 n := HCL.out
    rw [HCS.out, rowR_splice (by omega), Nat.zero_add, List.length_replicate])
  clear HSZ
  go_wp2_with (refine wpList_copy_splice rfl (.tmp 31) (.tmp 32) 27 27 rfl 3 Tryz.underlying27 HSZZ.out (some ⟨w.heap.size, 0, none⟩) (some ⟨X, 0, none⟩) n n 1 1 rfl rfl w.heap.size 0 (rowR n 0) 3 HG1.out cs HMIN.out (fun _ => ⟨rfl, _, rfl, HSRC.out⟩) HFIT.out HONE.out w.heap.size w HB1.out (Nat.le_refl _) ?_; intro w3 hg3 hb3; have HG3 : Hid (Blk w3 w.heap.size 3 (rowR n cs.length).toArray) := Lib.hid (by have h := hg3.out; rw [HSPL.out] at h; exact h); have HB3 := Lib.hid hb3; clear hg3 hb3)
  go_wp2
  go_loopw [8] (fun v wr => ∃ m : Nat, m ≤ n ∧ (0 < n → 0 < m) ∧ v = .int .i64 m ∧ Hid (Blk wr w.heap.size 3 (rowR n m).toArray) ∧ Hid (Below w.heap.size w wr)) (fun v _ => n - (intOf v).toNat)
  case atStart => exact ⟨cs.length, HCN.out, HCP.out, rfl, HG3, HB3⟩
  case round =>
    obtain ⟨m, hm, hmp, rfl, HGR, HBR⟩ := hrel
    by_cases hlt : m < n
    · have m1 : (m : Int) < (n : Int) := by omega
      have m0 : (0 : Int) ≤ (m : Int) := by omega
      have m2 : (m : Int) ≤ (n : Int) := by omega
      have m3 : ¬ n = m := by omega
      obtain ⟨xs, hxs⟩ : ∃ xs, xs = List.replicate (min m (n - m)) (Value.int .i64 (-1)) := ⟨_, rfl⟩
      have hxl : xs.length = min m (n - m) := by rw [hxs, List.length_replicate]
      have hx1 : ∀ u ∈ xs, u = Value.int .i64 (-1) := fun u hu => by rw [hxs] at hu; exact (List.mem_replicate.1 hu).2
      have hxb : m + xs.length ≤ n := by omega
      have hxp : 0 < xs.length := by omega
      have XMIN : Hid (xs.length = Nat.min m (n - m)) := Lib.hid hxl
      have XFIT : Hid (m + xs.length ≤ (rowR n m).length) := Lib.hid (by rw [rowR_len hm]; exact hxb)
      have XONE : Hid (∀ u ∈ xs, u.oneCell' = true) := Lib.hid (fun u hu => by rw [hx1 u hu]; rfl)
      have XSPL : Hid (splice (rowR n m) m xs = rowR n (m + xs.length)) := Lib.hid (by rw [hxs, rowR_splice (by omega), List.length_replicate])
      have XSRC : Hid (∀ j v, xs[j]? = some v → wr.drew.cell? ((⟨w.heap.size, 0, none⟩ : Addr).add j) = some v) := Lib.hid (fun j v hv => by
        have hj : j < xs.length := (List.getElem?_eq_some_iff.1 hv).1
        rw [add_at, hx1 v (List.mem_of_getElem? hv), Nat.zero_add]
        refine (HGR.out.cell j).trans ?_
        rw [List.getElem?_toArray]
        unfold rowR
        rw [List.getElem?_append_left (by rw [List.length_replicate]; omega), List.getElem?_replicate, if_pos (by omega)])
      have hw1 : IntKind.i64.wrap ((m : Int) + (xs.length : Int)) = (m : Int) + (xs.length : Int) := IntWalk.i64_in _ (by omega)
      have XB := Lib.hid hxb
      have XP := Lib.hid hxp
      clear hxs hxl hx1 hxb hxp hm hmp
      go_wp2
      go_region_law (first | (refine step_copy_splice (by rfl) (.tmp 41) (.tmp 44) 27 27 (by rfl) 3 Tryz.underlying27 HSZZ.out (some ⟨w.heap.size, m, none⟩) (some ⟨w.heap.size, 0, none⟩) (n - m) (n - m) m n (by rfl) (by rfl) w.heap.size m (rowR n m) 3 HGR.out.drew xs XMIN.out (fun _ => ⟨rfl, _, rfl, XSRC.out⟩) XFIT.out XONE.out w.heap.size w (Below.drew HBR.out) (Nat.le_refl _) ?_; intro w5 hg5 hb5; have HG5 : Hid (Blk w5 w.heap.size 3 (rowR n (m + xs.length)).toArray) := Lib.hid (by have h := hg5.out; rw [XSPL.out] at h; exact h); have HB5 := Lib.hid hb5; clear hg5 hb5))
      all_goals (
        have hxb := XB.out
        have hxp := XP.out
        (try simp only [Act.put, Option.bind_some, Array.getElem?_toArray, List.getElem?_cons_zero, List.getElem?_cons_succ, List.setIfInBounds_toArray, List.set_cons_zero, List.set_cons_succ])
        (try go_simp)
        go_wp2
        go_roundw
        case rel => exact ⟨m + xs.length, hxb, fun _ => by omega, by go_num, HG5, HB5⟩
        case measure => simp [intOf]; omega)
    · obtain rfl : m = n := by omega
      have HO : Hid (OwnZ wr w.heap.size (.slice (some ⟨w.heap.size, 0, none⟩) m m) (List.replicate m (-1))) := Lib.hid (by
        have hb := HGR.out
        have e : rowR m m = (List.replicate m (-1)).map (Value.int .i64) := by unfold rowR; simp
        rw [e] at hb
        refine ⟨by simp, .inr ⟨w.heap.size, m, _, by simp, Nat.le_refl _, hb, by simp, by unfold maxLen; omega, by simp, by simp⟩⟩)
      have e1 : ¬ (m : Int) < (m : Int) := by omega
      have HX : Hid (RepRes m w (.returned (.slice (some ⟨w.heap.size, 0, none⟩) m m)) wr) := Lib.hid ⟨_, rfl, HO.out, HBR.out⟩
      clear hmp hm hlt
      go_wp2
      go_ret
      exact HX.out
end Go.Proofs.YtgponahmkjohiabGreatDoor
