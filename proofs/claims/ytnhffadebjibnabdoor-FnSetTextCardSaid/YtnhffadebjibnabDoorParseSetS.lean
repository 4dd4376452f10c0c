/- Contract of ParseSet of the reference: it parses as the program does. -/
import Derived.Test.YtnhffadebjibnabDoorParseSetI
namespace Go.Proofs.YtnhffadebjibnabDoor
open Go.RowKit

theorem setP_empty {l : List UInt8} {w W : World} (h : okS l = false) (hb : Below w.heap.size w W) : SetP l w (.returned (.tuple #[.slice (some ⟨W.heap.size, 0, none⟩) 0 0, .bool false])) (W.alloc (.cells #[] 24)) := by
  refine ⟨some ⟨W.heap.size, 0, none⟩, 0, ?_, ?_, bl_alloc hb _⟩
  · rw [tsS_no h, h]; rfl
  · rw [tsS_no h]; exact own_more (Own.empty W) hb.size

theorem dress_at {qs : List (List UInt8)} {t q : List UInt8} {r : List (List UInt8)} {k : Nat} (e1 : qs = t :: r.map (fun x => 32 :: x)) (e2 : ∀ p ∈ t :: r, okR p = true) (hq : qs[k]? = some q) (hk : 0 < k) : ∃ x, q = 32 :: x ∧ okR x = true := by
  subst e1
  obtain ⟨j, rfl⟩ : ∃ j, k = j + 1 := ⟨k - 1, by omega⟩
  simp at hq
  obtain ⟨x, hx, rfl⟩ := hq
  exact ⟨x, rfl, e2 x (List.mem_cons_of_mem _ (List.mem_of_getElem? hx))⟩
theorem take_next {qs : List (List UInt8)} {q : List UInt8} {k : Nat} (hq : qs[k]? = some q) : qs.take (k + 1) = qs.take k ++ [q] := by
  obtain ⟨h1, h2⟩ := List.getElem?_eq_some_iff.1 hq
  rw [List.take_succ_eq_append_getElem h1, h2]
theorem dress_first {qs tx : List (List UInt8)} {q : List UInt8} (hd : qs.take 0 = dress tx) (hq : qs[0]? = some q) : qs.take (0 + 1) = dress (tx ++ [q]) := by
  rw [take_next hq]
  cases tx with
  | nil => rfl
  | cons a b => simp [dress] at hd
theorem dress_next {qs tx : List (List UInt8)} {p : List UInt8} {k : Nat} (hd : qs.take k = dress tx) (hq : qs[k]? = some (32 :: p)) (hk : 0 < k) : qs.take (k + 1) = dress (tx ++ [p]) := by
  have h0 : 0 < qs.length := by
    obtain ⟨h1, _⟩ := List.getElem?_eq_some_iff.1 hq; omega
  rw [take_next hq, hd]
  cases tx with
  | nil =>
    have := congrArg List.length hd
    rw [List.length_take] at this
    have e : (dress []).length = 0 := rfl
    omega
  | cons a b => simp [dress]
theorem dress_len (tx : List (List UInt8)) : (dress tx).length = tx.length := by cases tx <;> simp [dress]

set_option maxRecDepth 100000 in
set_option maxHeartbeats 4000000 in
theorem sParseSet_any (w : World) (l : List UInt8) (hl : l.length ≤ 2000000) :
    Calls Tryd.prog 28 #[str l] w (SetP l w) := by
  obtain ⟨i0, hi, hz0, hz1, hz2⟩ := info_parts info_task
  cases hle : l.isEmpty
  · have hne : l ≠ [] := by simpa using hle
    go_enter Tryd.func28, Tryd.ntmps28
    go_wp2_with fail
    refine (cut_at _ l 59 59 rfl hl).mono ?_
    rintro e w1 ⟨v, rfl, ho, hb⟩
    have HB1 := Lib.hid (bl_trans (bl_alloc (Below.refl w.heap.size w) _) hb)
    have hsz1 : w.heap.size < w1.heap.size := by have := hb.size; simp at this; omega
    have HO1 := Lib.hid ((Own.empty w).below hb)
    obtain ⟨g, c, rfl, hg, hgB, hcell⟩ := ho.at_ (pieces_ne 59 l)
    simp at hgB
    have HC := Lib.hid hcell
    have HPL := Lib.hid (pieces_len 59 l)
    have hmax := pieces_count 59 l
    have HNO := Lib.hid (show okS l = true → ∃ t r, pieces 59 l = t :: r.map (fun x => 32 :: x) ∧ (∀ p ∈ t :: r, okR p = true) ∧ r.length + 1 ≤ 5 from fun h => dress_okS h hne)
    have HYES := Lib.hid (show ∀ t r, pieces 59 l = t :: r.map (fun x => 32 :: x) → (∀ p ∈ t :: r, okR p = true) → r.length + 1 ≤ 5 → okS l = true ∧ tsS l = (t :: r).map parsedT from fun t r h1 h2 h3 => ⟨(okS_dress h1 h2 h3).1, (okS_dress h1 h2 h3).2.1⟩)
    have hnz := pieces_ne 59 l
    clear hb ho hcell hne
    generalize pieces 59 l = qs at HC HPL HNO HYES hmax hnz ⊢
    have hpos : 0 < qs.length := List.length_pos_iff.2 hnz
    obtain ⟨m, hm⟩ : ∃ m, qs.length = m := ⟨_, rfl⟩
    have HM := Lib.hid hm
    rw [hm] at hmax hpos ⊢
    clear hm hnz
    go_wp2
    go_loopw [4, 6] (fun v i wr => ∃ (k : Nat) (tx : List (List UInt8)), k ≤ m ∧ k ≤ 6 ∧ i = .int .i64 k ∧ Hid (qs.take k = dress tx ∧ (∀ p ∈ tx, okR p = true)) ∧ Own wr w.heap.size v (tx.map parsedT) ∧ Hid (∀ q, v.ownBlock = some q → q ≠ g) ∧ Hid (∀ j x, qs[j]? = some x → wr.cell? ⟨g, j, none⟩ = some (str x)) ∧ g < wr.heap.size ∧ Below w.heap.size w wr) (fun _ i _ => 7 - (intOf i).toNat)
    case atStart => exact ⟨0, [], Nat.zero_le _, by omega, rfl, ⟨by simp [dress], by simp⟩, HO1.out, (fun q e => by have e' : some w.heap.size = some q := e; injection e' with e'; omega), HC.out, hg, HB1.out⟩
    case round =>
      obtain ⟨k, tx, hk, hk6, rfl, HD, ho, HNG, hcr, hgr, hb⟩ := hrel
      have HO := Lib.hid ho
      have HB := Lib.hid hb
      have hszr : w.heap.size ≤ wr.heap.size := hb.size
      have htl : tx.length = k := by
        have := congrArg List.length HD.out.1
        rw [dress_len, List.length_take, HM.out] at this
        omega
      clear ho hb
      by_cases hlt : k < m ∧ k ≤ 5
      · obtain ⟨hlt, hk5⟩ := hlt
        obtain ⟨q, hq⟩ : ∃ q, qs[k]? = some q := ⟨qs[k]'(by rw [HM.out]; exact hlt), List.getElem?_eq_getElem _⟩
        have c0 := hcr.out k q hq
        have hql : q.length ≤ 2000000 := Nat.le_trans (HPL.out q (List.mem_of_getElem? hq)) hl
        have HQ := Lib.hid hq
        have hki : (k : Int) < (m : Int) := by omega
        have hki5 : (k : Int) ≤ 5 := by omega
        clear hq
        by_cases hk0 : k = 0
        · subst hk0
          have hpl := hql
          obtain ⟨lo, hi', du, ev, cr, b, hpp, hpo, _, hs_⟩ := parsers q hpl
          have HPP := Lib.hid hpp
          have HPO := Lib.hid hpo
          have HS := Lib.hid hs_
          clear hpp hpo hs_
          go_wp2_with fail
          refine (HS.out _).mono ?_
          rintro e w3 ⟨rfl, hb⟩
          have HB3 := Lib.hid (bl_trans HB.out hb)
          have HO3 := Lib.hid (HO.out.below hb)
          have hsz3 : w.heap.size ≤ w3.heap.size := Nat.le_trans hszr hb.size
          have hg3 : g < w3.heap.size := Nat.lt_of_lt_of_le hgr hb.size
          have HC3 := Lib.hid (show ∀ j x, qs[j]? = some x → w3.cell? ⟨g, j, none⟩ = some (str x) from fun j x hj => (hb.cell (p := ⟨g, j, none⟩) hgr).trans (hcr.out j x hj))
          clear hb HS c0
          cases b
          · have HBF := Lib.hid (bl_alloc HB3.out (.cells #[.int .i64 lo, .int .i64 hi', .int .i64 du, .int .i64 ev, .bool cr] 24))
            have hno : okS l = false := by
              cases h : okS l
              · rfl
              · obtain ⟨t, r, e1, e2, e3⟩ := HNO.out h
                exfalso
                have e0 := HQ.out
                rw [e1] at e0
                simp at e0
                have := e2 t (by simp)
                rw [e0, HPO.out] at this
                cases this
            have HNN := Lib.hid hno
            clear hno
            go_wp2
            refine bodyPost_ret (v := .tuple #[.slice (some ⟨(w3.alloc (.cells #[.int .i64 lo, .int .i64 hi', .int .i64 du, .int .i64 ev, .bool cr] 24)).heap.size, 0, none⟩) 0 0, .bool false]) (by simp [results, Tryd.results28, go_sem]) rfl (setP_empty HNN.out HBF.out)
          · have hlen : (tx.map parsedT).length ≤ 5 := by rw [List.length_map]; omega
            have b1 : (tx.map parsedT).length + 1 ≤ maxLen := by unfold maxLen; omega
            have b2 : ((tx.map parsedT).length + 1) * 40 ≤ 140737488355328 := by omega
            have HDN : Hid (qs.take (0 + 1) = dress (tx ++ [q]) ∧ (∀ x ∈ tx ++ [q], okR x = true)) := ⟨dress_first HD.out.1 HQ.out, fun x hx => by
              rcases List.mem_append.1 hx with h | h
              · exact HD.out.2 x h
              · have e : x = q := by simpa using h
                rw [e]; exact HPO.out⟩
            have HMP : Hid ((tx ++ [q]).map parsedT = tx.map parsedT ++ [⟨lo, hi', du, ev, cr⟩]) := by show _ = _; rw [List.map_append, List.map_cons, List.map_nil, HPP.out]
            go_wp2_with (
              at_builtin
              refine wpList_append_own_at _ rfl (.tmp 54) (.tmp 56) 32 rfl w.heap.size 24 i0 _ 5 40 Tryd.underlying32 hi hz0 hz1 hz2 rfl (by decide) u4 (tx.map parsedT).length ((tx.map parsedT).flatMap Tk.cells) rfl ((HO3.out.alloc _).alloc _) ⟨w3.heap.size + 1, 0, none⟩ 1 1 (Tk.cells ⟨lo, hi', du, ev, cr⟩) rfl rfl (cell_new5_at _ ⟨lo, hi', du, ev, cr⟩ _ _ (by simp)) (by intro u hu; exact cells_one [⟨lo, hi', du, ev, cr⟩] u (by simpa using hu)) b1 b2 (by simp; omega) ?_
              intro v' w4 hown' hgrow _ hat
              have HO4 := Lib.hid (Own.snoc hown')
              have HB4 := Lib.hid ((bl_alloc (bl_alloc HB3.out _) _).grown hgrow (by simp; omega) (fun k e => (World.ownsRow.lt HO3.out k e).1))
              have hg4 : g < w4.heap.size := by have := hgrow.size; simp at this; omega
              have HC4 := Lib.hid (show ∀ j x, qs[j]? = some x → w4.cell? ⟨g, j, none⟩ = some (str x) from fun j x hj => hgrow.cell (by rw [World.cell?_alloc_lt _ _ _ (by simp; omega), World.cell?_alloc_lt _ _ _ (by simp; omega)]; exact HC3.out j x hj) (fun e => HNG.out g e.symm rfl))
              have HNG4 := Lib.hid (show ∀ q, v'.ownBlock = some q → q ≠ g from fun q e => by
                rcases hat with h | h
                · exact HNG.out q (h.symm.trans e)
                · have e2 := h.symm.trans e
                  injection e2 with e2
                  simp at e2
                  omega)
              clear hown' hgrow hat hlen b1 b2)
            go_wp2
            go_roundw
            case rel => exact ⟨0 + 1, tx ++ [q], by omega, by omega, by go_num, HDN, by rw [HMP.out]; exact HO4.out, HNG4, HC4, hg4, HB4.out⟩
            case measure => simp [intOf] <;> omega
        · have hkp : (0 : Int) < (k : Int) := by omega
          cases hqe : q with
          | nil =>
            subst hqe
            have HBF := HB
            have hno : okS l = false := by
              cases h : okS l
              · rfl
              · obtain ⟨t, r, e1, e2, e3⟩ := HNO.out h
                exfalso
                obtain ⟨x, hx, _⟩ := dress_at e1 e2 HQ.out (by omega)
                cases hx
            have HNN := Lib.hid hno
            clear hno
            go_wp2
            refine bodyPost_ret (v := .tuple #[.slice (some ⟨wr.heap.size, 0, none⟩) 0 0, .bool false]) (by simp [results, Tryd.results28, go_sem]) rfl (setP_empty HNN.out HBF.out)
          | cons q0 p =>
            have hq1 : q.isEmpty = false := by rw [hqe]; rfl
            have hqp : 0 < q.length := by rw [hqe]; simp
            have hx0 := at_byte (l := q) (k := 0) (b := q0) (by rw [hqe]; rfl) (by simp [ByteArray.size]; omega)
            have he : (⟨q.toArray⟩ : ByteArray).extract 1 q.length = ⟨p.toArray⟩ := by
              rw [hqe]
              apply ByteArray.ext
              simp
            have hpl : p.length ≤ 2000000 := by rw [hqe] at hql; simp at hql; omega
            have hq1i : ¬ (q.length : Int) < 1 := by omega
            have HQQ := Lib.hid hqe
            by_cases hsp : q0 = 32
            · have hs32 : ((q0.toNat : Int) == 32) = true := by rw [hsp]; rfl
              have HQ : Hid (qs[k]? = some (32 :: p)) := by show _ = _; rw [HQ.out, HQQ.out, hsp]
              clear hqe hsp
              obtain ⟨lo, hi', du, ev, cr, b, hpp, hpo, _, hs_⟩ := parsers p hpl
              have HPP := Lib.hid hpp
              have HPO := Lib.hid hpo
              have HS := Lib.hid hs_
              clear hpp hpo hs_
              go_wp2_with fail
              refine (HS.out _).mono ?_
              rintro e w3 ⟨rfl, hb⟩
              have HB3 := Lib.hid (bl_trans HB.out hb)
              have HO3 := Lib.hid (HO.out.below hb)
              have hsz3 : w.heap.size ≤ w3.heap.size := Nat.le_trans hszr hb.size
              have hg3 : g < w3.heap.size := Nat.lt_of_lt_of_le hgr hb.size
              have HC3 := Lib.hid (show ∀ j x, qs[j]? = some x → w3.cell? ⟨g, j, none⟩ = some (str x) from fun j x hj => (hb.cell (p := ⟨g, j, none⟩) hgr).trans (hcr.out j x hj))
              clear hb HS c0
              cases b
              · have HBF := Lib.hid (bl_alloc HB3.out (.cells #[.int .i64 lo, .int .i64 hi', .int .i64 du, .int .i64 ev, .bool cr] 24))
                have hno : okS l = false := by
                  cases h : okS l
                  · rfl
                  · obtain ⟨t, r, e1, e2, e3⟩ := HNO.out h
                    exfalso
                    obtain ⟨x, hx, hok2⟩ := dress_at e1 e2 HQ.out (by omega)
                    injection hx with _ hx
                    rw [← hx, HPO.out] at hok2
                    cases hok2
                have HNN := Lib.hid hno
                clear hno
                go_wp2
                refine bodyPost_ret (v := .tuple #[.slice (some ⟨(w3.alloc (.cells #[.int .i64 lo, .int .i64 hi', .int .i64 du, .int .i64 ev, .bool cr] 24)).heap.size, 0, none⟩) 0 0, .bool false]) (by simp [results, Tryd.results28, go_sem]) rfl (setP_empty HNN.out HBF.out)
              · have hlen : (tx.map parsedT).length ≤ 5 := by rw [List.length_map]; omega
                have b1 : (tx.map parsedT).length + 1 ≤ maxLen := by unfold maxLen; omega
                have b2 : ((tx.map parsedT).length + 1) * 40 ≤ 140737488355328 := by omega
                have HDN : Hid (qs.take (k + 1) = dress (tx ++ [p]) ∧ (∀ x ∈ tx ++ [p], okR x = true)) := ⟨dress_next HD.out.1 HQ.out (by omega), fun x hx => by
                  rcases List.mem_append.1 hx with h | h
                  · exact HD.out.2 x h
                  · have e : x = p := by simpa using h
                    rw [e]; exact HPO.out⟩
                have HMP : Hid ((tx ++ [p]).map parsedT = tx.map parsedT ++ [⟨lo, hi', du, ev, cr⟩]) := by show _ = _; rw [List.map_append, List.map_cons, List.map_nil, HPP.out]
                go_wp2_with (
                  at_builtin
                  refine wpList_append_own_at _ rfl (.tmp 54) (.tmp 56) 32 rfl w.heap.size 24 i0 _ 5 40 Tryd.underlying32 hi hz0 hz1 hz2 rfl (by decide) u4 (tx.map parsedT).length ((tx.map parsedT).flatMap Tk.cells) rfl ((HO3.out.alloc _).alloc _) ⟨w3.heap.size + 1, 0, none⟩ 1 1 (Tk.cells ⟨lo, hi', du, ev, cr⟩) rfl rfl (cell_new5_at _ ⟨lo, hi', du, ev, cr⟩ _ _ (by simp)) (by intro u hu; exact cells_one [⟨lo, hi', du, ev, cr⟩] u (by simpa using hu)) b1 b2 (by simp; omega) ?_
                  intro v' w4 hown' hgrow _ hat
                  have HO4 := Lib.hid (Own.snoc hown')
                  have HB4 := Lib.hid ((bl_alloc (bl_alloc HB3.out _) _).grown hgrow (by simp; omega) (fun k e => (World.ownsRow.lt HO3.out k e).1))
                  have hg4 : g < w4.heap.size := by have := hgrow.size; simp at this; omega
                  have HC4 := Lib.hid (show ∀ j x, qs[j]? = some x → w4.cell? ⟨g, j, none⟩ = some (str x) from fun j x hj => hgrow.cell (by rw [World.cell?_alloc_lt _ _ _ (by simp; omega), World.cell?_alloc_lt _ _ _ (by simp; omega)]; exact HC3.out j x hj) (fun e => HNG.out g e.symm rfl))
                  have HNG4 := Lib.hid (show ∀ q, v'.ownBlock = some q → q ≠ g from fun q e => by
                    rcases hat with h | h
                    · exact HNG.out q (h.symm.trans e)
                    · have e2 := h.symm.trans e
                      injection e2 with e2
                      simp at e2
                      omega)
                  clear hown' hgrow hat hlen b1 b2)
                go_wp2
                go_roundw
                case rel => exact ⟨k + 1, tx ++ [p], by omega, by omega, by go_num, HDN, by rw [HMP.out]; exact HO4.out, HNG4, HC4, hg4, HB4.out⟩
                case measure => simp [intOf] <;> omega
            · have hs32 : ((q0.toNat : Int) == 32) = false := beq_eq_false_iff_ne.2 (fun h => hsp (UInt8.toNat_inj.1 (show q0.toNat = 32 by omega)))
              have HBF := HB
              have HSP := Lib.hid hsp
              clear hqe hsp
              have hno : okS l = false := by
                cases h : okS l
                · rfl
                · obtain ⟨t, r, e1, e2, e3⟩ := HNO.out h
                  exfalso
                  obtain ⟨x, hx, _⟩ := dress_at e1 e2 HQ.out (by omega)
                  rw [HQQ.out] at hx
                  injection hx with hx
                  exact HSP.out hx
              have HNN := Lib.hid hno
              clear hno
              go_wp2
              refine bodyPost_ret (v := .tuple #[.slice (some ⟨wr.heap.size, 0, none⟩) 0 0, .bool false]) (by simp [results, Tryd.results28, go_sem]) rfl (setP_empty HNN.out HBF.out)
      · by_cases h5 : m ≤ 5
        · obtain rfl : k = m := by omega
          have h5i : ¬ (5 : Int) < (k : Int) := by omega
          have hkk : ¬ (k : Int) < (k : Int) := by omega
          have hd := HD.out.1
          rw [List.take_of_length_le (by rw [HM.out]; omega)] at hd
          obtain ⟨t, r, rfl⟩ : ∃ t r, tx = t :: r := by
            cases tx with
            | nil => simp at htl; omega
            | cons t r => exact ⟨t, r, rfl⟩
          obtain ⟨y1, y2⟩ := HYES.out t r hd HD.out.2 (by simp at htl; omega)
          have HY1 := Lib.hid y1
          have HY2 := Lib.hid y2
          clear hd y1 y2
          go_wp2
          obtain ⟨A3, c3, rfl⟩ := HO.out.form
          refine bodyPost_ret (v := .tuple #[.slice A3 ((t :: r).map parsedT).length c3, .bool true]) (by simp [results, Tryd.results28, go_sem]) rfl (setP_yes HY1.out HY2.out HO.out HB.out)
        · have h5i : (5 : Int) < (m : Int) := by omega
          have hq : (k : Int) < (m : Int) ∧ ¬ (k : Int) ≤ 5 ∨ ¬ (k : Int) < (m : Int) := by omega
          have HBF := HB
          have hno : okS l = false := by
            cases h : okS l
            · rfl
            · obtain ⟨t, r, e1, e2, e3⟩ := HNO.out h
              exfalso
              have := HM.out
              rw [e1] at this
              simp at this
              omega
          have HNN := Lib.hid hno
          clear hno
          rcases hq with ⟨h1, h2⟩ | h1
          all_goals
            go_wp2
            refine bodyPost_ret (v := .tuple #[.slice (some ⟨wr.heap.size, 0, none⟩) 0 0, .bool false]) (by simp [results, Tryd.results28, go_sem]) rfl (setP_empty HNN.out HBF.out)
  · have he : l = [] := by simpa using hle
    subst he
    go_enter Tryd.func28, Tryd.ntmps28
    go_wp2
    refine bodyPost_ret (v := .tuple #[.slice (some ⟨w.heap.size, 0, none⟩) 0 0, .bool true]) (by simp [results, Tryd.results28, go_sem]) rfl (setP_yes okS_nil.1 okS_nil.2 (Own.empty w) (bl_alloc (Below.refl _ _) _))

end Go.Proofs.YtnhffadebjibnabDoor
