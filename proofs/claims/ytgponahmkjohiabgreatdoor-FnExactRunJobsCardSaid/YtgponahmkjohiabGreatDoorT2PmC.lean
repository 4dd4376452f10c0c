import Derived.Deep.RegionHeld3
import Derived.Deep.QuietTactic
import Derived.BigQuiet
import Derived.Shelf.Abstract
import Derived.Test.YtgponahmkjohiabGreatDoorT2PmB
namespace Go.Proofs.YtgponahmkjohiabGreatDoor
open Go.RowKit
set_option linter.unusedVariables false
set_option maxHeartbeats 2000000 in
theorem iTaken_is (w : World) (M : Nat) (p : Pm) (h : PAt w M p) (hc : p.cn ≤ 60) :
    Calls Tryz.prog 137 #[.pointer (some ⟨M, 5, none⟩)] w fun e w' => e = .returned (.slice (some ⟨M, 5, none⟩) p.cn 60) ∧ Below w.heap.size w w' := by
  have c65 := h.c65
  have h0 : (0 : Int) ≤ (p.cn : Int) := by omega
  have h1 : (p.cn : Int) ≤ 60 := by omega
  clear h
  go_enter Tryz.func137, Tryz.ntmps137
  go_wp2
  go_quiet (fail)
  go_wp2
  go_ret
  exact ⟨rfl, (by repeat (first | exact Below.refl _ _ | refine bl_drewN ?_ _ | refine Below.drew ?_))⟩
/-- What keep leaves: those places for which something is so. -/
def KeepRes (M : Nat) (p : Pm) (stay : Int → Bool) (I : Nat → World → Prop) (e : Ending) (w' : World) : Prop :=
  ∃ lf : List Int, e = .returned (.tuple #[]) ∧ PAt w' M { p with lf := lf, cn := ((p.lf.take p.cn).filter stay).length } ∧ lf.take ((p.lf.take p.cn).filter stay).length = (p.lf.take p.cn).filter stay ∧ I p.cn w'
theorem filt_take {stay : Int → Bool} {l : List Int} {k : Nat} {z : Int} (h : l[k]? = some z) : (l.take (k + 1)).filter stay = (l.take k).filter stay ++ (if stay z then [z] else []) := by
  rw [List.take_add_one, List.filter_append, h]
  by_cases hs : stay z <;> simp [hs]
theorem take_set_snoc {l : List Int} {m : Nat} (hm : m < l.length) (z : Int) : (l.set m z).take (m + 1) = l.take m ++ [z] := by
  rw [List.take_add_one, List.take_set_of_le (Nat.le_refl _), List.getElem?_set_self hm]
  rfl
set_option maxRecDepth 100000 in
set_option maxHeartbeats 4000000 in
theorem iPlKeep_is (w : World) (M k : Nat) (cap : Array Value) (p : Pm) (stay : Int → Bool) (I : Nat → World → Prop) (hp : PAt w M p) (hc : p.cn ≤ 60)
    (ek : ∀ args w, (callFunc k args).run Tryz.prog w = .ok (.enter k args) w)
    (h0 : I 0 w) (hset : ∀ i W j u, I i W → I i (W.setCell ⟨M, j, none⟩ u)) (hbel : ∀ i W W', I i W → Below W.heap.size W W' → I i W')
    (hcall : ∀ (i : Nat) (lf : List Int) (W : World), i < p.cn → I i W → PAt W M { p with lf := lf } → Calls Tryz.prog k (#[.int .i64 (p.lf.getD i 0)] ++ cap) W fun e W' => e = .returned (.bool (stay (p.lf.getD i 0))) ∧ I (i + 1) W' ∧ PAt W' M { p with lf := lf }) :
    Calls Tryz.prog 138 #[.pointer (some ⟨M, 5, none⟩), .func (.func k) #[] cap] w (KeepRes M p stay I) := by
  have HP := Lib.hid hp
  have HI0 := Lib.hid h0
  have HST := Lib.hid hset
  have HBL := Lib.hid hbel
  have HC := Lib.hid hcall
  have HL := Lib.hid hp.l
  clear hp h0 hset hbel hcall
  go_enter Tryz.func138, Tryz.ntmps138
  go_wp2_with fail
  refine (iTaken_is _ M p HP.out hc).mono ?_
  rintro e w1 ⟨rfl, hb⟩
  have HP1 := Lib.hid (HP.out.bel hb)
  have HI1 := Lib.hid (HBL.out 0 _ _ HI0.out hb)
  clear hb
  go_wp2
  go_loopw [4, 10] (fun v i wr => ∃ (j m : Nat) (lf : List Int), j ≤ p.cn ∧ m ≤ j ∧ i = .int .i64 j ∧ v = .int .i64 m ∧ Hid (m = ((p.lf.take j).filter stay).length) ∧ Hid (lf.take m = (p.lf.take j).filter stay) ∧ Hid (∀ i, j ≤ i → lf.getD i 0 = p.lf.getD i 0) ∧ Hid (PAt wr M { p with lf := lf }) ∧ Hid (I j wr)) (fun _ i _ => p.cn - (intOf i).toNat)
  case atStart => exact ⟨0, 0, p.lf, Nat.zero_le _, Nat.le_refl _, rfl, rfl, Lib.hid (by simp), Lib.hid (by simp), Lib.hid (fun _ _ => rfl), HP1, HI1⟩
  case round =>
    obtain ⟨j, m, lf, hj, hm, rfl, rfl, HM, HTK, HSM, HPR, HIR⟩ := hrel
    by_cases hlt : j < p.cn
    · have cj : wr.cell? ⟨M, 5 + j, none⟩ = some (.int .i64 (p.lf.getD j 0)) := by
        have := HPR.out.left (i := j) (by omega)
        dsimp only at this
        rw [HSM.out j (Nat.le_refl _)] at this
        exact this
      have q0 : (0 : Int) ≤ (j : Int) := by omega
      have q1 : (j : Int) < (p.cn : Int) := by omega
      obtain ⟨z, hz⟩ : ∃ z, p.lf.getD j 0 = z := ⟨_, rfl⟩
      have hzj : p.lf[j]? = some z := by
        have : j < p.lf.length := by have := HL.out; omega
        rw [List.getElem?_eq_getElem this, ← hz]
        simp [List.getD, List.getElem?_eq_getElem this]
      have hcc := HC.out j lf wr hlt HIR.out HPR.out
      rw [hz] at hcc cj
      have HZ := Lib.hid hzj
      have HCC := Lib.hid hcc
      have HL1 := Lib.hid (HPR.out.l)
      clear hz hzj hcc
      cases hs : stay z
      · have HS := Lib.hid hs
        rw [hs] at HCC
        clear hs
        go_wp2_with (go_at_fn k; refine HCC.out.mono ?_; rintro e w2 ⟨rfl, hi2, hp2⟩; have HI2 := Lib.hid hi2; have HP2 := Lib.hid hp2; clear hi2 hp2 cj)
        have HF : Hid ((p.lf.take (j + 1)).filter stay = (p.lf.take j).filter stay) := Lib.hid (by rw [filt_take HZ.out, if_neg (by rw [HS.out]; decide), List.append_nil])
        go_roundw
        case rel => exact ⟨j + 1, m, lf, by omega, by omega, by go_num, rfl, Lib.hid (by rw [HF.out]; exact HM.out), Lib.hid (by rw [HF.out]; exact HTK.out), Lib.hid (fun i hi => HSM.out i (by omega)), HP2, HI2⟩
        case measure => simp [intOf]; omega
      · have HS := Lib.hid hs
        rw [hs] at HCC
        clear hs
        have m0 : (0 : Int) ≤ (m : Int) := by omega
        have m1 : (m : Int) < 60 := by omega
        go_wp2_with (go_at_fn k; refine HCC.out.mono ?_; rintro e w2 ⟨rfl, hi2, hp2⟩; have HI2 := Lib.hid (HST.out _ _ (5 + m) (.int .i64 z) hi2); have HP2 := Lib.hid (hp2.sLf (i := m) (by omega) z); have f2 := hp2.frozen; have e2 := hp2.left (i := m) (by omega); clear hi2 hp2 cj)
        have HF : Hid ((p.lf.take (j + 1)).filter stay = (p.lf.take j).filter stay ++ [z]) := Lib.hid (by rw [filt_take HZ.out, if_pos HS.out])
        go_roundw
        case rel => exact ⟨j + 1, m + 1, lf.set m z, by omega, by omega, by go_num, by go_num, Lib.hid (by rw [HF.out, List.length_append, ← HM.out]; rfl), Lib.hid (by rw [take_set_snoc (by have := HL1.out; (try dsimp only at this); omega), HF.out, HTK.out]), Lib.hid (fun i hi => by
          have := HSM.out i (by omega)
          rw [← this]
          simp only [List.getD]
          rw [List.getElem?_set_ne (by omega)]), HP2, HI2⟩
        case measure => simp [intOf]; omega
    · obtain rfl : j = p.cn := by omega
      have f2 := HPR.out.frozen
      have e65 := HPR.out.c65
      have HX : Hid (KeepRes M p stay I (.returned (.tuple #[])) (wr.setCell ⟨M, 65, none⟩ (.int .i64 (m : Int)))) := Lib.hid (by
        refine ⟨lf, rfl, ?_, ?_, HST.out _ _ 65 _ HIR.out⟩
        · have h := HPR.out.sCn m
          rw [← HM.out]
          exact h
        · rw [← HM.out]; exact HTK.out)
      go_wp2
      go_end0
      exact HX.out
end Go.Proofs.YtgponahmkjohiabGreatDoor
