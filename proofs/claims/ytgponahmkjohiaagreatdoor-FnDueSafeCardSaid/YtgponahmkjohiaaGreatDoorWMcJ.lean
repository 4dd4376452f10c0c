import Derived.Test.YtgponahmkjohiaaGreatDoorWMcI
import Derived.Test.YtgponahmkjohiaaGreatDoorWMcR
import Derived.Test.YtgponahmkjohiaaGreatDoorWVirL
namespace Go.Proofs.YtgponahmkjohiaaGreatDoor
open Go.RowKit
set_option linter.unusedVariables false
def lowW (n : Nat) (ts : List Tk) (c : Bool) : Nat := ((ts.filter fun t => t.cr == c).map fun t => n / t.ev.toNat * t.lo.toNat).sum
theorem low_share {ts : List Tk} {n : Nat} (c : Bool) (hn : 0 < n) (h : ∀ t ∈ ts, t.ok = true) (hd : ∀ t ∈ ts, t.ev.toNat ∣ n) : lowL ts c = redN (lowW n ts c) n := by
  have hf : ∀ t ∈ ts.filter (fun t => t.cr == c), 0 < t.ev.toNat := fun t ht => by have := ok_nums (h t (List.mem_filter.1 ht).1); omega
  have e1 : sumN ((ts.filter fun t => t.cr == c).map part) = sumN ((ts.filter fun t => t.cr == c).map fun t => (t.lo.toNat, t.ev.toNat)) :=
    sum_rep _ _ _ fun t ht => ⟨red_pos (hf t ht), hf t ht, red_same _ _⟩
  unfold lowL
  rw [e1, sum_common hn]
  · unfold lowW
    rw [List.map_map]
    rfl
  · intro x hx
    obtain ⟨t, ht, rfl⟩ := List.mem_map.1 hx
    exact ⟨hf t ht, hd t (List.mem_filter.1 ht).1⟩
theorem sum_filt (p : Tk → Bool) (f : Tk → Nat) : ∀ ts : List Tk, ((ts.filter p).map f).sum = (ts.map fun t => if p t then f t else 0).sum
  | [] => rfl
  | t :: ts => by
    rw [List.filter_cons, List.map_cons, List.sum_cons, ← sum_filt p f ts]
    cases p t
    · simp
    · simp
theorem sum_all (f : Tk → Nat) (ts : List Tk) : (((ts.map f).sum : Nat) : Int) = sumZ (fun j => ((f (tkOf ts (j : Int)) : Nat) : Int)) ts.length := by
  have h := sum_tasks (ts := ts) f (Nat.le_refl _)
  rw [List.take_length] at h
  exact h
def wP (n : Nat) (ts : List Tk) (j : Nat) : Int := ((n / (tkOf ts (j : Int)).ev.toNat : Nat) : Int)
theorem tk_in {ts : List Tk} {j : Nat} (hj : j < ts.length) : ts[j]? = some (tkOf ts (j : Int)) ∧ tkOf ts (j : Int) ∈ ts := by
  have hg : ts[j]? = some ts[j] := List.getElem?_eq_getElem hj
  rw [tkOf_get hg]
  exact ⟨hg, List.getElem_mem hj⟩
theorem shA_is {ts : List Tk} {n : Nat} (h : ∀ t ∈ ts, t.ok = true) : shAm ts (wP n ts) = ((lowW n ts false : Nat) : Int) := by
  unfold shAm lowW
  rw [sum_filt, sum_all]
  refine sumZ_congr fun j hj => ?_
  have ht := ok_nums (h _ (tk_in hj).2)
  try dsimp only
  unfold wP
  obtain ⟨l, hl⟩ := Int.eq_ofNat_of_zero_le (show 0 ≤ (tkOf ts (j : Int)).lo by omega)
  cases hc : (tkOf ts (j : Int)).cr
  · rw [hl]; simp [Int.mul_comm]
  · simp
theorem shB_is {ts : List Tk} {n : Nat} (h : ∀ t ∈ ts, t.ok = true) : shBm ts (wP n ts) = ((lowW n ts true : Nat) : Int) := by
  unfold shBm lowW
  rw [sum_filt, sum_all]
  refine sumZ_congr fun j hj => ?_
  have ht := ok_nums (h _ (tk_in hj).2)
  try dsimp only
  unfold wP
  obtain ⟨l, hl⟩ := Int.eq_ofNat_of_zero_le (show 0 ≤ (tkOf ts (j : Int)).lo by omega)
  cases hc : (tkOf ts (j : Int)).cr
  · simp
  · rw [hl]; simp [Int.mul_comm]
theorem shH_is {ts : List Tk} {n : Nat} (h : ∀ t ∈ ts, t.ok = true) : shHm ts (wP n ts) = ((needs n ts : Nat) : Int) := by
  unfold shHm needs
  rw [sum_filt, sum_all]
  refine sumZ_congr fun j hj => ?_
  have ht := ok_nums (h _ (tk_in hj).2)
  try dsimp only
  unfold wP
  obtain ⟨l, hl⟩ := Int.eq_ofNat_of_zero_le (show 0 ≤ (tkOf ts (j : Int)).hi by omega)
  cases hc : (tkOf ts (j : Int)).cr
  · simp
  · rw [hl]; simp [Int.mul_comm]
theorem shB_le {ts : List Tk} {n : Nat} (h : ∀ t ∈ ts, t.ok = true) : shBm ts (wP n ts) ≤ shHm ts (wP n ts) := by
  unfold shBm shHm
  refine sumZ_le fun j hj => ?_
  have ht := ok_nums (h _ (tk_in hj).2)
  try dsimp only
  split
  · exact Int.mul_le_mul_of_nonneg_right (by omega) (Int.natCast_nonneg _)
  · exact Int.le_refl _
theorem needs_none {ts : List Tk} {n : Nat} (h : ∀ t ∈ ts, t.cr = false) : needs n ts = 0 := by
  unfold needs
  rw [List.filter_eq_nil_iff.2 (fun t ht => by rw [h t ht]; decide)]
  rfl
section
variable {a1 a2 b1 b2 h1 h2 x1 x2 m1 m2 A B H n : Nat}
theorem sch_plain (ha : a1 * n = A * a2) (hh : h1 * n = H * h2) (pa : 0 < a2) (ph : 0 < h2) (h : a1 * h2 + h1 * a2 ≤ a2 * h2) : A + H ≤ n := by
  refine Nat.le_of_mul_le_mul_right (c := a2 * h2) ?_ (Nat.mul_pos pa ph)
  have e1 := Nat.mul_le_mul_right n h
  have e2 : (a1 * h2 + h1 * a2) * n = (A + H) * (a2 * h2) := by
    have : (a1 * h2 + h1 * a2) * n = a1 * n * h2 + h1 * n * a2 := by rw [Nat.add_mul, Nat.mul_right_comm a1 h2 n, Nat.mul_right_comm h1 a2 n]
    rw [this, ha, hh, Nat.add_mul, ← Nat.mul_assoc, Nat.mul_comm a2 h2, ← Nat.mul_assoc]
  rw [e2] at e1
  rw [Nat.mul_comm n]
  exact e1
theorem sch_fac (ha : a1 * n = A * a2) (hb : b1 * n = B * b2) (pa : 0 < a2) (pb : 0 < b2) (hlt : a1 < a2) (hx : x1 * (b2 * (a2 - a1)) = b1 * a2 * x2) : (x1 : Int) * n = x1 * A + x2 * B := by
  have h1 : (x1 : Int) * (b2 * ((a2 : Int) - a1)) = b1 * a2 * x2 := by
    have : (((a2 - a1 : Nat)) : Int) = (a2 : Int) - a1 := by omega
    rw [← this]
    exact_mod_cast hx
  have h2 : (a1 : Int) * n = A * a2 := by exact_mod_cast ha
  have h3 : (b1 : Int) * n = B * b2 := by exact_mod_cast hb
  have hp : (0 : Int) < (a2 : Int) * b2 := Int.mul_pos (by omega) (by omega)
  refine Int.eq_of_mul_eq_mul_right (a := (a2 : Int) * b2) (by omega) ?_
  grind
theorem sch_virt (ha : a1 * n = A * a2) (hh : h1 * n = H * h2) (pa : 0 < a2) (ph : 0 < h2) (pm : 0 < m2) (hm : m1 * (x2 * a2) = x1 * a1 * m2) (h : m1 * h2 + h1 * m2 ≤ m2 * h2) : (A : Int) * x1 + H * x2 ≤ n * x2 := by
  have e2 : (a1 : Int) * n = A * a2 := by exact_mod_cast ha
  have e3 : (h1 : Int) * n = H * h2 := by exact_mod_cast hh
  have e4 : (m1 : Int) * (x2 * a2) = x1 * a1 * m2 := by exact_mod_cast hm
  have e5 : (m1 : Int) * h2 + h1 * m2 ≤ m2 * h2 := by exact_mod_cast h
  have e6 := Int.mul_le_mul_of_nonneg_right e5 (show (0 : Int) ≤ (x2 : Int) * a2 * n from Int.mul_nonneg (Int.mul_nonneg (by omega) (by omega)) (by omega))
  have hp : (0 : Int) < (m2 : Int) * (h2 * a2) := Int.mul_pos (by omega) (Int.mul_pos (by omega) (by omega))
  have f1 : ((m1 : Int) * h2 + h1 * m2) * ((x2 : Int) * a2 * n) = (m1 * (x2 * a2)) * (h2 * n) + (h1 * n) * (m2 * x2 * a2) := by clear ha hh hm h e2 e3 e4 e5 e6 hp; grind
  have f2 : ((x1 : Int) * a1 * m2) * (h2 * n) = (a1 * n) * (x1 * m2 * h2) := by clear ha hh hm h e2 e3 e4 e5 e6 hp f1; grind
  have f3 : ((A : Int) * a2) * (x1 * m2 * h2) + (H * h2) * (m2 * x2 * a2) = (A * x1 + H * x2) * (m2 * (h2 * a2)) := by clear ha hh hm h e2 e3 e4 e5 e6 hp f1 f2; grind
  have f4 : (m2 : Int) * h2 * (x2 * a2 * n) = n * x2 * (m2 * (h2 * a2)) := by clear ha hh hm h e2 e3 e4 e5 e6 hp f1 f2 f3; grind
  rw [f1, e4, f2, e2, e3, f3, f4] at e6
  exact Int.le_of_mul_le_mul_right e6 hp
end
/-- Tasks that hold with virtual deadlines keep what is asked of their shares. -/
theorem sch_of {ts : List Tk} (hv : virtV ts = true) : ∃ P w, Sch ts (poOf ts 1) P w := by
  have hf : facB ts = true := by unfold virtV at hv; simp at hv; exact hv.1
  have hi := fac_imp hf
  have hs := imp_set hi
  have hok := (setB_all hs).2
  have hall := imp_all hi
  have hn := prodE_pos hok
  have hd : ∀ t ∈ ts, t.ev.toNat ∣ prodE ts := fun t ht => prodE_dvd ht
  obtain ⟨n, hnn⟩ : ∃ n, prodE ts = n := ⟨_, rfl⟩
  rw [hnn] at hn hd
  have ea : lowOf ts false = redN (lowW n ts false) n := by unfold lowOf; rw [hs, if_pos rfl]; exact low_share false hn hok hd
  have eb : lowOf ts true = redN (lowW n ts true) n := by unfold lowOf; rw [hs, if_pos rfl]; exact low_share true hn hok hd
  have eh : highOf ts = redN (needs n ts) n := by unfold highOf; rw [hs, if_pos rfl]; exact needs_share hn hok hd
  have ra : (lowOf ts false).1 * n = lowW n ts false * (lowOf ts false).2 := by rw [ea]; exact red_same _ _
  have rb : (lowOf ts true).1 * n = lowW n ts true * (lowOf ts true).2 := by rw [eb]; exact red_same _ _
  have rh : (highOf ts).1 * n = needs n ts * (highOf ts).2 := by rw [eh]; exact red_same _ _
  obtain ⟨pa, pb, ph⟩ := set_pos hs
  have hpx : polX ts 1 = facV ts := rfl
  have hle := (facV_sh hf).2.1
  refine ⟨(n : Int), wP n ts, rfl, fun i tk h => hall tk (List.mem_of_getElem? h), by omega, ?_, ?_, ?_, ?_, ?_⟩
  · show 1 ≤ (((polX ts 1).1 : Nat) : Int)
    rw [hpx]
    by_cases hc : ∃ t ∈ ts, t.cr = true
    · obtain ⟨t, ht, hc⟩ := hc
      have := fac_pos hf ht hc
      omega
    · have hno : ∀ t ∈ ts, t.cr = false := fun t ht => by
        cases h : t.cr
        · rfl
        · exact absurd ⟨t, ht, h⟩ hc
      have h0 : (highOf ts).1 = 0 := by
        rw [needs_none hno, Nat.zero_mul] at rh
        rcases Nat.mul_eq_zero.1 rh with h | h
        · exact h
        · omega
      have hpl : plainV ts = true := by
        cases hp : plainV ts
        · have h2 := (fac_two hf hp).1
          have h3 := sum_le_one pa pb h2
          have h4 : leN (addN (lowOf ts false) (highOf ts)) (1, 1) := sum_le_one' pa ph (by
            rw [h0, Nat.zero_mul, Nat.add_zero]
            refine Nat.mul_le_mul_right _ ?_
            refine Nat.le_of_mul_le_mul_right (c := (lowOf ts true).2) ?_ pb
            omega)
          have : plainV ts = true := by unfold plainV; rw [hi, leB_iff.2 h4]; rfl
          rw [hp] at this
          cases this
        · rfl
      rw [facV_plain hpl]
      decide
  · show (((polX ts 1).1 : Nat) : Int) ≤ (((polX ts 1).2 : Nat) : Int)
    rw [hpx]
    omega
  · intro i tk h
    have hm := List.mem_of_getElem? h
    have ho := ok_nums (hok tk hm)
    unfold wP
    rw [tkOf_get h]
    refine ⟨?_, Int.natCast_nonneg _⟩
    have e := Nat.mul_div_cancel' (hd tk hm)
    have e2 : ((tk.ev.toNat : Nat) : Int) = tk.ev := by omega
    rw [← e2]
    exact_mod_cast e
  · show shAm ts (wP n ts) * (((polX ts 1).1 : Nat) : Int) + shBm ts (wP n ts) * (((polX ts 1).2 : Nat) : Int) ≤ (n : Int) * (((polX ts 1).1 : Nat) : Int)
    rw [hpx]
    cases hp : plainV ts
    · have hx := facV_some hf hp
      have hlt := fac_lt hf hp
      have hx2 : (facV ts).1 * ((lowOf ts true).2 * ((lowOf ts false).2 - (lowOf ts false).1)) = (lowOf ts true).1 * (lowOf ts false).2 * (facV ts).2 := by
        rw [hx]; unfold facN; exact red_same _ _
      have h := sch_fac ra rb pa pb hlt hx2
      rw [shA_is hok, shB_is hok]
      grind
    · rw [facV_plain hp]
      have h := sch_plain ra rh pa ph (sum_le_one pa ph (plain_le hp))
      have h2 := shB_le (n := n) hok
      rw [shH_is hok] at h2
      rw [shA_is hok]
      simp only [Int.natCast_one, Int.mul_one]
      omega
  · show shAm ts (wP n ts) * (((polX ts 1).1 : Nat) : Int) + shHm ts (wP n ts) * (((polX ts 1).2 : Nat) : Int) ≤ (n : Int) * (((polX ts 1).2 : Nat) : Int)
    rw [hpx, shA_is hok, shH_is hok]
    cases hp : plainV ts
    · have hvv : leN (addN (mulN (facV ts) (lowOf ts false)) (highOf ts)) (1, 1) := by
        unfold virtV at hv
        rw [hf, hp] at hv
        simp at hv
        exact leB_iff.1 hv
      have p2 : 0 < (facV ts).2 := (facV_sh hf).1.pos
      have pm : 0 < (mulN (facV ts) (lowOf ts false)).2 := red_pos (Nat.mul_pos p2 pa)
      exact sch_virt ra rh pa ph pm (by unfold mulN; exact red_same _ _) (sum_le_one pm ph hvv)
    · rw [facV_plain hp]
      have h := sch_plain ra rh pa ph (sum_le_one pa ph (plain_le hp))
      simp only [Int.natCast_one, Int.mul_one]
      omega
end Go.Proofs.YtgponahmkjohiaaGreatDoor
