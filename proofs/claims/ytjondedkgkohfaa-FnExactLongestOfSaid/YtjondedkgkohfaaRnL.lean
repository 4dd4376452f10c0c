/- Contracts of LongestOf, the program's and the reference's. -/
import Derived.Test.YtjondedkgkohfaaRnA
import Derived.Test.YtjondedkgkohfaaJb
import Derived.Deep.QuietTactic
import Derived.BigQuiet
import Derived.LoopTactic
namespace Go.Proofs.Ytjondedkgkohfaa
open Go.RowKit
set_option linter.unusedVariables false

def lgStep (task : Int) (j : Jb) (x m : Int) : Int := if j.ta = task ∧ 0 ≤ j.tm ∧ 0 ≤ x then (if m < IntKind.i64.wrap (x - j.tm) then IntKind.i64.wrap (x - j.tm) else m) else m
/-- The longest response among the first jobs. -/
def lgK (task : Int) (js : List Jb) (en : List Int) : Nat → Int
  | 0 => 0
  | k + 1 => lgStep task (js.getD k ⟨0, 0, 0⟩) (en.getD k 0) (lgK task js en k)
theorem lg_succ {task : Int} {js : List Jb} {en : List Int} {k : Nat} {j : Jb} {x m : Int} (hj : js[k]? = some j) (hx : en[k]? = some x) (h : lgK task js en k = m) : lgK task js en (k + 1) = lgStep task j x m := by
  rw [lgK, h]
  simp [List.getD, hj, hx]
def longV (task : Int) (js : List Jb) (en : List Int) : Int := if en.length = js.length then lgK task js en js.length else 0

set_option maxRecDepth 100000 in
set_option maxHeartbeats 2000000 in
theorem iLong_is (w : World) (Aj : Option Addr) (nj cj : Nat) (js : List Jb) (A1 : Option Addr) (n1 c1 : Nat) (A2 : Option Addr) (n2 c2 : Nat) (A3 : Option Addr) (n3 c3 : Nat) (hi : Bool) (en : List Int) (hj : Jbs w w.heap.size Aj nj js) (h : Zs w w.heap.size A1 n1 en) (hn : n1 ≤ 1100000) (hnj : nj ≤ 1100000) (task : Int) (r : Int) (hr : longV task js en = r) :
    Calls Try.prog 26 #[.slice Aj nj cj, .agg #[.slice A1 n1 c1, .slice A2 n2 c2, .slice A3 n3 c3, .bool hi], .int .i64 task] w fun e w' => e = .returned (.int .i64 r) ∧ Below w.heap.size w w' := by
  have HE := Lib.hid (And.intro (bl_alloc (Below.refl w.heap.size w) (.cells #[.slice A1 n1 c1, .slice A2 n2 c2, .slice A3 n3 c3, .bool hi] 27)) (Blk.new w 27 #[.slice A1 n1 c1, .slice A2 n2 c2, .slice A3 n3 c3, .bool hi]))
  obtain ⟨wa, hwa⟩ : ∃ wa, w.alloc (.cells #[.slice A1 n1 c1, .slice A2 n2 c2, .slice A3 n3 c3, .bool hi] 27) = wa := ⟨_, rfl⟩
  rw [hwa] at HE
  have E := Lib.hid ((h.below HE.out.1).more HE.out.1.size)
  have J := Lib.hid ((hj.below HE.out.1).more HE.out.1.size)
  have LE := h.len
  have LJ := hj.len
  have cA := HE.out.2.cell
  clear h hj
  by_cases hne : n1 = nj
  case neg =>
    obtain rfl : r = 0 := by
      rw [← hr]
      unfold longV
      rw [if_neg (by omega)]
    have t1 : ((n1 : Int) == (nj : Int)) = false := by rw [beq_eq_false_iff_ne]; omega
    have t2 : ((n1 : Int) != (nj : Int)) = true := by rw [bne_iff_ne]; omega
    have t3 : ¬ (n1 : Int) = (nj : Int) := by omega
    clear LE LJ hr
    go_enter Try.func26, Try.ntmps26
    go_wp2
    go_ret
    exact ⟨rfl, HE.out.1⟩
  subst hne
  have hr2 : lgK task js en n1 = r := by
    rw [← hr]
    unfold longV
    rw [if_pos (by omega), LJ]
  have HR := Lib.hid hr2
  have HLE := Lib.hid LE
  have HLJ := Lib.hid LJ
  clear LE LJ hr hr2
  go_enter Try.func26, Try.ntmps26
  go_wp2
  try rw [hwa]
  go_loopw [7, 18] (fun s i wr => ∃ (k : Nat) (m : Int), k ≤ n1 ∧ i = .int .i64 k ∧ s = .int .i64 m ∧ Hid (lgK task js en k = m) ∧ Hid (Below wa.heap.size wa wr)) (fun _ i _ => n1 - (intOf i).toNat)
  case atStart => exact ⟨0, 0, Nat.zero_le _, rfl, rfl, Lib.hid rfl, Lib.hid (Below.refl _ _)⟩
  case round =>
    obtain ⟨k, m, hk, rfl, rfl, HM, HB⟩ := hrel
    clear cA hwa
    have hw1 : wa.heap.size ≤ wr.heap.size := HB.out.size
    by_cases hkn : k < n1
    · have q2 : (k : Int) < (n1 : Int) := by omega
      have q1 : (0 : Int) ≤ (k : Int) := by omega
      obtain ⟨x, hx⟩ := zs_at E.out hkn
      obtain ⟨j, hj⟩ : ∃ j, js[k]? = some j := ⟨js[k]'(by rw [HLJ.out]; exact hkn), List.getElem?_eq_getElem _⟩
      obtain ⟨bj, oj, rfl, hbj, a0, a1, a2⟩ := (J.out.below HB.out).at_ k j hj
      obtain ⟨b, o, rfl, hbl, c0⟩ := (E.out.below HB.out).at_ k x hx
      obtain ⟨ta, tm, ne⟩ := j
      dsimp only at a0 a1 a2
      have HN := Lib.hid (lg_succ hj hx HM.out)
      clear hj hx
      have bA := HE.out.2.below HB.out HE.out.2.lt
      have hbw : b < wr.heap.size := by have := HB.out.size; omega
      have cJ := (Blk.new wr 35 #[.int .i64 ta, .int .i64 tm, .int .i64 ne]).cell
      have cAa := (bA.alloc (.cells #[.int .i64 ta, .int .i64 tm, .int .i64 ne] 35)).cell
      have c0a := (World.cell?_alloc_lt wr (.cells #[.int .i64 ta, .int .i64 tm, .int .i64 ne] 35) ⟨b, o + k, none⟩ hbw).trans c0
      have HBn := Lib.hid (bl_alloc HB.out (.cells #[.int .i64 ta, .int .i64 tm, .int .i64 ne] 35))
      clear bA
      by_cases h1 : ta = task
      case neg =>
        have t1 : (ta == task) = false := by simpa using h1
        go_wp2
        go_roundw
        case rel => exact ⟨k + 1, m, by omega, by go_num, rfl, Lib.hid (by rw [HN.out]; unfold lgStep; dsimp only; rw [if_neg (by omega)]), Lib.hid (by repeat (first | with_reducible exact HBn.out | with_reducible refine Below.drew ?_ | with_reducible refine bl_drewN ?_ _))⟩
        case measure => simp [intOf]; omega

      subst h1
      by_cases h2 : 0 ≤ tm
      case neg =>
        have t2 : decide (0 ≤ tm) = false := decide_eq_false h2
        by_cases h3 : 0 ≤ x
        · have t3 : decide (0 ≤ x) = true := decide_eq_true h3
          go_wp2
          go_roundw
          case rel => exact ⟨k + 1, m, by omega, by go_num, rfl, Lib.hid (by rw [HN.out]; unfold lgStep; dsimp only; rw [if_neg (by omega)]), Lib.hid (by repeat (first | with_reducible exact HBn.out | with_reducible refine Below.drew ?_ | with_reducible refine bl_drewN ?_ _))⟩
          case measure => simp [intOf]; omega

        · have t3 : decide (0 ≤ x) = false := decide_eq_false h3
          go_wp2
          go_roundw
          case rel => exact ⟨k + 1, m, by omega, by go_num, rfl, Lib.hid (by rw [HN.out]; unfold lgStep; dsimp only; rw [if_neg (by omega)]), Lib.hid (by repeat (first | with_reducible exact HBn.out | with_reducible refine Below.drew ?_ | with_reducible refine bl_drewN ?_ _))⟩
          case measure => simp [intOf]; omega

      have t2 : decide (0 ≤ tm) = true := decide_eq_true h2
      by_cases h3 : 0 ≤ x
      case neg =>
        have t3 : decide (0 ≤ x) = false := decide_eq_false h3
        go_wp2
        go_roundw
        case rel => exact ⟨k + 1, m, by omega, by go_num, rfl, Lib.hid (by rw [HN.out]; unfold lgStep; dsimp only; rw [if_neg (by omega)]), Lib.hid (by repeat (first | with_reducible exact HBn.out | with_reducible refine Below.drew ?_ | with_reducible refine bl_drewN ?_ _))⟩
        case measure => simp [intOf]; omega

      have t3 : decide (0 ≤ x) = true := decide_eq_true h3
      obtain ⟨d, hd⟩ : ∃ d, IntKind.i64.wrap (x - tm) = d := ⟨_, rfl⟩
      by_cases h4 : m < d
      · have t4 : decide (m < d) = true := decide_eq_true h4
        go_wp2
        go_quiet (fail)
        go_wp2
        go_roundw
        case rel => exact ⟨k + 1, d, by omega, by go_num, rfl, Lib.hid (by rw [HN.out]; unfold lgStep; dsimp only; rw [if_pos (by omega), hd, if_pos (by omega)]), Lib.hid (by repeat (first | with_reducible exact HBn.out | with_reducible refine Below.drew ?_ | with_reducible refine bl_drewN ?_ _))⟩
        case measure => simp [intOf]; omega

      · have t4 : decide (m < d) = false := decide_eq_false h4
        go_wp2
        go_quiet (fail)
        go_wp2
        go_roundw
        case rel => exact ⟨k + 1, m, by omega, by go_num, rfl, Lib.hid (by rw [HN.out]; unfold lgStep; dsimp only; rw [if_pos (by omega), hd, if_neg (by omega)]), Lib.hid (by repeat (first | with_reducible exact HBn.out | with_reducible refine Below.drew ?_ | with_reducible refine bl_drewN ?_ _))⟩
        case measure => simp [intOf]; omega
    · obtain rfl : k = n1 := by omega
      obtain rfl : m = r := by rw [← HM.out, HR.out]
      have cA := (HE.out.2.below HB.out HE.out.2.lt).cell
      go_wp2
      go_ret
      exact ⟨rfl, bl_trans HE.out.1 HB.out⟩

set_option maxRecDepth 100000 in
set_option maxHeartbeats 2000000 in
theorem sLong_is (w : World) (Aj : Option Addr) (nj cj : Nat) (js : List Jb) (A1 : Option Addr) (n1 c1 : Nat) (A2 : Option Addr) (n2 c2 : Nat) (A3 : Option Addr) (n3 c3 : Nat) (hi : Bool) (en : List Int) (hj : Jbs w w.heap.size Aj nj js) (h : Zs w w.heap.size A1 n1 en) (hn : n1 ≤ 1100000) (hnj : nj ≤ 1100000) (task : Int) (r : Int) (hr : longV task js en = r) :
    Calls Try.prog 27 #[.slice Aj nj cj, .agg #[.slice A1 n1 c1, .slice A2 n2 c2, .slice A3 n3 c3, .bool hi], .int .i64 task] w fun e w' => e = .returned (.int .i64 r) ∧ Below w.heap.size w w' := by
  have HE := Lib.hid (And.intro (bl_alloc (Below.refl w.heap.size w) (.cells #[.slice A1 n1 c1, .slice A2 n2 c2, .slice A3 n3 c3, .bool hi] 27)) (Blk.new w 27 #[.slice A1 n1 c1, .slice A2 n2 c2, .slice A3 n3 c3, .bool hi]))
  obtain ⟨wa, hwa⟩ : ∃ wa, w.alloc (.cells #[.slice A1 n1 c1, .slice A2 n2 c2, .slice A3 n3 c3, .bool hi] 27) = wa := ⟨_, rfl⟩
  rw [hwa] at HE
  have E := Lib.hid ((h.below HE.out.1).more HE.out.1.size)
  have J := Lib.hid ((hj.below HE.out.1).more HE.out.1.size)
  have LE := h.len
  have LJ := hj.len
  have cA := HE.out.2.cell
  clear h hj
  by_cases hne : n1 = nj
  case neg =>
    obtain rfl : r = 0 := by
      rw [← hr]
      unfold longV
      rw [if_neg (by omega)]
    have t1 : ((n1 : Int) == (nj : Int)) = false := by rw [beq_eq_false_iff_ne]; omega
    have t2 : ((n1 : Int) != (nj : Int)) = true := by rw [bne_iff_ne]; omega
    have t3 : ¬ (n1 : Int) = (nj : Int) := by omega
    clear LE LJ hr
    go_enter Try.func27, Try.ntmps27
    go_wp2
    go_ret
    exact ⟨rfl, HE.out.1⟩
  subst hne
  have hr2 : lgK task js en n1 = r := by
    rw [← hr]
    unfold longV
    rw [if_pos (by omega), LJ]
  have HR := Lib.hid hr2
  have HLE := Lib.hid LE
  have HLJ := Lib.hid LJ
  clear LE LJ hr hr2
  go_enter Try.func27, Try.ntmps27
  go_wp2
  try rw [hwa]
  go_loopw [7, 8] (fun s i wr => ∃ (k : Nat) (m : Int), k ≤ n1 ∧ i = .int .i64 k ∧ s = .int .i64 m ∧ Hid (lgK task js en k = m) ∧ Hid (Below wa.heap.size wa wr)) (fun _ i _ => n1 - (intOf i).toNat)
  case atStart => exact ⟨0, 0, Nat.zero_le _, rfl, rfl, Lib.hid rfl, Lib.hid (Below.refl _ _)⟩
  case round =>
    obtain ⟨k, m, hk, rfl, rfl, HM, HB⟩ := hrel
    clear cA hwa
    have hw1 : wa.heap.size ≤ wr.heap.size := HB.out.size
    by_cases hkn : k < n1
    · have q2 : (k : Int) < (n1 : Int) := by omega
      have q1 : (0 : Int) ≤ (k : Int) := by omega
      obtain ⟨x, hx⟩ := zs_at E.out hkn
      obtain ⟨j, hj⟩ : ∃ j, js[k]? = some j := ⟨js[k]'(by rw [HLJ.out]; exact hkn), List.getElem?_eq_getElem _⟩
      obtain ⟨bj, oj, rfl, hbj, a0, a1, a2⟩ := (J.out.below HB.out).at_ k j hj
      obtain ⟨b, o, rfl, hbl, c0⟩ := (E.out.below HB.out).at_ k x hx
      obtain ⟨ta, tm, ne⟩ := j
      dsimp only at a0 a1 a2
      have HN := Lib.hid (lg_succ hj hx HM.out)
      clear hj hx
      have cA := (HE.out.2.below HB.out HE.out.2.lt).cell
      have HBn := HB
      by_cases h1 : ta = task
      case neg =>
        have t1 : (ta == task) = false := by simpa using h1
        go_wp2
        go_quiet (fail)
        go_wp2
        go_roundw
        case rel => exact ⟨k + 1, m, by omega, by go_num, rfl, Lib.hid (by rw [HN.out]; unfold lgStep; dsimp only; rw [if_neg (by omega)]), Lib.hid (by repeat (first | with_reducible exact HBn.out | with_reducible refine Below.drew ?_ | with_reducible refine bl_drewN ?_ _))⟩
        case measure => simp [intOf]; omega

      subst h1
      by_cases h2 : 0 ≤ tm
      case neg =>
        have t2 : decide (0 ≤ tm) = false := decide_eq_false h2
        by_cases h3 : 0 ≤ x
        · have t3 : decide (0 ≤ x) = true := decide_eq_true h3
          go_wp2
          go_quiet (fail)
          go_wp2
          go_roundw
          case rel => exact ⟨k + 1, m, by omega, by go_num, rfl, Lib.hid (by rw [HN.out]; unfold lgStep; dsimp only; rw [if_neg (by omega)]), Lib.hid (by repeat (first | with_reducible exact HBn.out | with_reducible refine Below.drew ?_ | with_reducible refine bl_drewN ?_ _))⟩
          case measure => simp [intOf]; omega

        · have t3 : decide (0 ≤ x) = false := decide_eq_false h3
          go_wp2
          go_quiet (fail)
          go_wp2
          go_roundw
          case rel => exact ⟨k + 1, m, by omega, by go_num, rfl, Lib.hid (by rw [HN.out]; unfold lgStep; dsimp only; rw [if_neg (by omega)]), Lib.hid (by repeat (first | with_reducible exact HBn.out | with_reducible refine Below.drew ?_ | with_reducible refine bl_drewN ?_ _))⟩
          case measure => simp [intOf]; omega

      have t2 : decide (0 ≤ tm) = true := decide_eq_true h2
      by_cases h3 : 0 ≤ x
      case neg =>
        have t3 : decide (0 ≤ x) = false := decide_eq_false h3
        go_wp2
        go_quiet (fail)
        go_wp2
        go_roundw
        case rel => exact ⟨k + 1, m, by omega, by go_num, rfl, Lib.hid (by rw [HN.out]; unfold lgStep; dsimp only; rw [if_neg (by omega)]), Lib.hid (by repeat (first | with_reducible exact HBn.out | with_reducible refine Below.drew ?_ | with_reducible refine bl_drewN ?_ _))⟩
        case measure => simp [intOf]; omega

      have t3 : decide (0 ≤ x) = true := decide_eq_true h3
      obtain ⟨d, hd⟩ : ∃ d, IntKind.i64.wrap (x - tm) = d := ⟨_, rfl⟩
      by_cases h4 : m < d
      · have t4 : decide (m < d) = true := decide_eq_true h4
        go_wp2
        go_quiet (fail)
        go_wp2
        go_quiet (fail)
        go_wp2
        go_roundw
        case rel => exact ⟨k + 1, d, by omega, by go_num, rfl, Lib.hid (by rw [HN.out]; unfold lgStep; dsimp only; rw [if_pos (by omega), hd, if_pos (by omega)]), Lib.hid (by repeat (first | with_reducible exact HBn.out | with_reducible refine Below.drew ?_ | with_reducible refine bl_drewN ?_ _))⟩
        case measure => simp [intOf]; omega

      · have t4 : decide (m < d) = false := decide_eq_false h4
        go_wp2
        go_quiet (fail)
        go_wp2
        go_roundw
        case rel => exact ⟨k + 1, m, by omega, by go_num, rfl, Lib.hid (by rw [HN.out]; unfold lgStep; dsimp only; rw [if_pos (by omega), hd, if_neg (by omega)]), Lib.hid (by repeat (first | with_reducible exact HBn.out | with_reducible refine Below.drew ?_ | with_reducible refine bl_drewN ?_ _))⟩
        case measure => simp [intOf]; omega
    · obtain rfl : k = n1 := by omega
      obtain rfl : m = r := by rw [← HM.out, HR.out]
      have cA := (HE.out.2.below HB.out HE.out.2.lt).cell
      go_wp2
      go_ret
      exact ⟨rfl, bl_trans HE.out.1 HB.out⟩

end Go.Proofs.Ytjondedkgkohfaa
