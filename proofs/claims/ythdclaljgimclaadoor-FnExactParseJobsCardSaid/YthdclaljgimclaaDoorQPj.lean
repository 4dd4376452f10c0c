/- Contracts of the program's reader of a job and of ParseJobs: a text is read as 'jsOf' and 'okJ' say; nothing that was there is written. -/
import Derived.Test.YthdclaljgimclaaDoorSPk
import Derived.Test.YthdclaljgimclaaDoorQTx
import Derived.Test.YthdclaljgimclaaDoorShC
import Derived.Test.YthdclaljgimclaaDoorShN
import Derived.Test.YthdclaljgimclaaDoorShS
import Derived.Lib.IndexMore
import Derived.Lib.AtoiAll
import Derived.Lib.ConvBytes
import Derived.Lib.SmallJoins
namespace Go.Proofs.YthdclaljgimclaaDoor
open Go.RowKit
set_option linter.unusedVariables false

def numI (l : List UInt8) : Int := match Lib.atoiAll l with | .ok v => v | _ => 0
theorem num3_fin : ∀ n : Fin 201, numI (dec3 n.val) = (n.val : Int) := by decide +kernel
theorem num_decJ {z : Int} (h0 : 0 ≤ z) (h1 : z ≤ 200) : numI (decJ z) = z := by
  unfold decJ
  rw [dec_3 (by omega)]
  have := num3_fin ⟨z.toNat, by omega⟩
  simp only at this
  rw [this]; omega
/-- What the walk asks of the variables of the library: a number, and two errors. -/
structure Vars (w : World) : Prop where
  ml : ∃ m, w.cell? ⟨0, 0, none⟩ = some (.int .i64 m)
  sy : ∃ te pe, w.cell? ⟨4, 0, none⟩ = some (.iface te pe)
  ra : ∃ te pe, w.cell? ⟨5, 0, none⟩ = some (.iface te pe)

theorem Vars.below {w w' : World} (h : Vars w) (hb : Below w.heap.size w w') : Vars w' := by
  obtain ⟨⟨m, h1⟩, ⟨t2, p2, h2⟩, ⟨t3, p3, h3⟩⟩ := h
  exact ⟨⟨m, (hb.cell (block_lt_of_cell h1)).trans h1⟩, ⟨t2, p2, (hb.cell (block_lt_of_cell h2)).trans h2⟩, ⟨t3, p3, (hb.cell (block_lt_of_cell h3)).trans h3⟩⟩

def IntRes (n : Int) (w : World) (e : Ending) (w' : World) : Prop := e = .returned (.int .i64 n) ∧ Below w.heap.size w w'

set_option maxRecDepth 100000 in
set_option maxHeartbeats 1000000 in
theorem number_any (w : World) (l : List UInt8) (hl : l.length ≤ 4000000) (hv : Vars w) :
    Calls Tryd.prog 62 #[str l] w (IntRes (numI l) w) := by
  have hsz : (⟨l.toArray⟩ : ByteArray).size = l.length := by simp [ByteArray.size]
  rcases he : Lib.atoiAll l with v | _ | _
  · go_enter Tryd.func62, Tryd.ntmps62
    go_wp2_with fail
    refine (Any.strconv_Atoi_ok Tryd.laysC172 ⟨l.toArray⟩ (by omega) v he _).mono ?_
    rintro e w1 ⟨rfl, hw⟩
    have HB : Hid (Below w.heap.size w w1) := by
      rcases hw with rfl | ⟨t, rfl⟩
      · exact Below.refl _ _
      · exact Go.Joins.below_bytesWorld _ _ _ _ (Nat.le_refl _)
    clear hw
    go_wp2
    go_ret
    exact ⟨by rw [numI, he]; rfl, HB.out⟩
  · obtain ⟨te, pe, hc⟩ := hv.sy
    go_enter Tryd.func62, Tryd.ntmps62
    go_wp2_with fail
    refine (Any.strconv_Atoi_syntax Tryd.laysC172 ⟨l.toArray⟩ (by omega) he _ _ hc (.inr ⟨te, pe, rfl⟩)).mono ?_
    rintro e w1 ⟨N, rfl, hN, hb, hbl⟩
    have HB := Lib.hid hbl
    clear hbl hb
    go_wp2
    go_ret
    exact ⟨by rw [numI, he]; rfl, HB.out⟩
  · obtain ⟨te, pe, hc⟩ := hv.ra
    go_enter Tryd.func62, Tryd.ntmps62
    go_wp2_with fail
    refine (Any.strconv_Atoi_range Tryd.laysC172 ⟨l.toArray⟩ (by omega) he _ _ hc (.inr ⟨te, pe, rfl⟩)).mono ?_
    rintro e w1 ⟨N, rfl, hN, hb, hbl⟩
    have HB := Lib.hid hbl
    clear hbl hb
    go_wp2
    go_ret
    exact ⟨by rw [numI, he]; rfl, HB.out⟩

/-- strings.Cut at a separator of fewer bytes than the model's bound. -/
theorem cutB_any (w : World) (l : List UInt8) (sep : Array UInt8) (hl : l.length ≤ 4000000) (hv : Vars w) :
    Calls Tryd.prog 61 #[str l, .string ⟨sep⟩] w fun e w' => e = .returned (.tuple #[str (Lib.cut l sep.toList).1, str (Lib.cut l sep.toList).2.1, .bool (Lib.cut l sep.toList).2.2]) ∧ Below w.heap.size w w' := by
  obtain ⟨m, hm⟩ := hv.ml
  refine (Any.strings_Cut { Tryd.laysM145 with } ⟨l.toArray⟩ ⟨sep⟩ m w (by simp [ByteArray.size]; omega) hm).mono ?_
  rintro e w' ⟨rfl, n, rfl⟩
  exact ⟨rfl, bl_drewN (Below.refl _ _) n⟩

theorem cut_len (l s : List UInt8) : (Lib.cut l s).1.length ≤ l.length ∧ (Lib.cut l s).2.1.length ≤ l.length := by
  unfold Lib.cut
  split
  · simp; omega
  · simp
theorem index_hit (c : UInt8) (r b : List UInt8) : ∀ a : List UInt8, c ∉ a → Lib.index (a ++ ((c :: r) ++ b)) (c :: r) = a.length
  | [], _ => by
    rw [List.nil_append, List.cons_append]
    unfold Lib.index
    rw [if_pos (List.isPrefixOf_iff_prefix.2 ⟨b, by simp⟩)]
    rfl
  | x :: a, h => by
    have h1 : c ≠ x := fun e => h (by simp [e])
    have ih := index_hit c r b a (fun e => h (List.mem_cons_of_mem _ e))
    rw [List.cons_append]
    unfold Lib.index
    rw [if_neg (fun e => by
      obtain ⟨z, hz⟩ := List.isPrefixOf_iff_prefix.1 e
      rw [List.cons_append] at hz
      injection hz with hz
      exact h1 hz), ih]
    have : ((a.length : Int) == -1) = false := by rw [beq_eq_false_iff_ne]; omega
    simp [this]
theorem cut_hit (c : UInt8) (b : List UInt8) {a : List UInt8} (h : c ∉ a) : Lib.cut (a ++ c :: b) [c] = (a, b, true) := by
  unfold Lib.cut
  have e := index_hit c [] b a h
  have e2 : a ++ ([c] ++ b) = a ++ c :: b := by simp
  rw [e2] at e
  rw [e]
  simp
def readJ (l : List UInt8) : Jb := ⟨numI (Lib.cut l [64]).1, numI (Lib.cut (Lib.cut l [64]).2.1 [58]).1, numI (Lib.cut (Lib.cut l [64]).2.1 [58]).2.1⟩
theorem readJ_text {j : Jb} (h : wrB j = true) : readJ (textJ j) = j := by
  obtain ⟨⟨a1, a2⟩, ⟨b1, b2⟩, c1, c2⟩ := wr_nums h
  have e1 : Lib.cut (textJ j) [64] = (decJ j.ta, decJ j.tm ++ 58 :: decJ j.ne, true) := cut_hit 64 _ (num_not a1 a2 (by decide))
  have e2 : Lib.cut (decJ j.tm ++ 58 :: decJ j.ne) [58] = (decJ j.tm, decJ j.ne, true) := cut_hit 58 _ (num_not b1 b2 (by decide))
  unfold readJ
  rw [e1]
  dsimp only
  rw [e2]
  exact Jb.eq_of (num_decJ a1 a2) (num_decJ b1 b2) (num_decJ c1 c2)

set_option maxRecDepth 100000 in
set_option maxHeartbeats 2000000 in
theorem readJob_any (w : World) (l : List UInt8) (hl : l.length ≤ 1100000) (hv : Vars w) :
    Calls Tryd.prog 35 #[str l] w fun e w' => e = .returned (readJ l).val ∧ Below w.heap.size w w' := by
  obtain ⟨m, hm⟩ : ∃ m, m = Lib.cut l [64] := ⟨_, rfl⟩
  obtain ⟨q, hq⟩ : ∃ q, q = Lib.cut m.2.1 [58] := ⟨_, rfl⟩
  have hR : readJ l = ⟨numI m.1, numI q.1, numI q.2.1⟩ := by rw [hq, hm]; rfl
  obtain ⟨lm1, lm2⟩ : m.1.length ≤ 1100000 ∧ m.2.1.length ≤ 1100000 := by
    obtain ⟨a, b⟩ := cut_len l [64]
    rw [← hm] at a b
    exact ⟨by omega, by omega⟩
  obtain ⟨lq1, lq2⟩ : q.1.length ≤ 1100000 ∧ q.2.1.length ≤ 1100000 := by
    obtain ⟨a, b⟩ := cut_len m.2.1 [58]
    rw [← hq] at a b
    exact ⟨by omega, by omega⟩
  have hc1 := fun W (h : Vars W) => cutB_any W l #[64] (by omega) h
  have hc2 := fun W (h : Vars W) => cutB_any W m.2.1 #[58] (by omega) h
  rw [show (#[64] : Array UInt8).toList = [64] from rfl, ← hm] at hc1
  rw [show (#[58] : Array UInt8).toList = [58] from rfl, ← hq] at hc2
  rw [hR]
  unfold Jb.val
  clear hR hq hm
  obtain ⟨m1, m2, m3⟩ := m
  obtain ⟨q1, q2, q3⟩ := q
  dsimp only at hc1 hc2 lm1 lm2 lq1 lq2 ⊢
  have HC1 := Lib.hid hc1
  have HC2 := Lib.hid hc2
  have HV := Lib.hid hv
  clear hc1 hc2 hv
  go_enter Tryd.func35, Tryd.ntmps35
  go_wp2_with fail
  refine (HC1.out _ (HV.out.below (bl_alloc (Below.refl _ _) _))).mono ?_
  rintro e w1 ⟨rfl, hb⟩
  have HB1 := Lib.hid (bl_trans (bl_alloc (Below.refl w.heap.size w) _) hb)
  have bR := Lib.hid ((Blk.new w 35 _).below hb (by simp))
  have s1 : w.heap.size < w1.heap.size := bR.out.lt
  clear hb HC1
  go_wp2_with fail
  refine (HC2.out _ (HV.out.below HB1.out)).mono ?_
  rintro e w2 ⟨rfl, hb⟩
  have HB2 := Lib.hid (bl_trans HB1.out hb)
  have bR2 := Lib.hid (bR.out.below hb (by omega))
  have s2 : w.heap.size < w2.heap.size := bR2.out.lt
  clear hb HC2 HB1 bR
  go_wp2_with fail
  refine (number_any _ m1 (by omega) (HV.out.below HB2.out)).mono ?_
  rintro e w3 ⟨rfl, hb⟩
  have HB3 := Lib.hid (bl_trans HB2.out hb)
  have bR3 := Lib.hid (bR2.out.below hb (by omega))
  have s3 : w.heap.size < w3.heap.size := bR3.out.lt
  clear hb HB2 bR2
  go_wp2_with fail
  refine (number_any _ q1 (by omega) (HV.out.below HB3.out)).mono ?_
  rintro e w4 ⟨rfl, hb⟩
  have HB4 := Lib.hid (bl_trans HB3.out hb)
  have bR4 := Lib.hid (bR3.out.below hb (by omega))
  have s4 : w.heap.size < w4.heap.size := bR4.out.lt
  clear hb HB3 bR3
  go_wp2_with fail
  refine (number_any _ q2 (by omega) (HV.out.below HB4.out)).mono ?_
  rintro e w5 ⟨rfl, hb⟩
  have HB5 := Lib.hid (bl_trans HB4.out hb)
  have bR5 := Lib.hid (bR4.out.below hb (by omega))
  have s5 : w.heap.size < w5.heap.size := bR5.out.lt
  clear hb HB4 bR4
  have cR := bR5.out.cell
  have fR := bR5.out.frozen
  go_wp2
  have bF := Blk.set_ (Blk.set_ (Blk.set_ bR5.out 0 (.int .i64 (numI m1))) 1 (.int .i64 (numI q1))) 2 (.int .i64 (numI q2))
  have cF := bF.cell
  refine bodyPost_ret (v := .agg #[.int .i64 (numI m1), .int .i64 (numI q1), .int .i64 (numI q2)]) (by simp [results, Tryd.results35, go_sem, cF]) rfl ⟨rfl, ?_⟩
  exact bl_set (bl_set (bl_set HB5.out (by dsimp only; omega) _) (by dsimp only; omega) _) (by dsimp only; omega) _

theorem index_miss (c : UInt8) (r : List UInt8) : ∀ a : List UInt8, c ∉ a → Lib.index a (c :: r) = -1
  | [], _ => by unfold Lib.index; rfl
  | x :: a, h => by
    have h1 : c ≠ x := fun e => h (by simp [e])
    have ih := index_miss c r a (fun e => h (List.mem_cons_of_mem _ e))
    unfold Lib.index
    rw [if_neg (fun e => by
      obtain ⟨z, hz⟩ := List.isPrefixOf_iff_prefix.1 e
      rw [List.cons_append] at hz
      injection hz with hz
      exact h1 hz), ih]
    rfl
theorem splitJ_join : ∀ (k : Nat) (ps : List (List UInt8)), ps ≠ [] → ps.length ≤ k + 1 → (∀ p ∈ ps, (32 : UInt8) ∉ p) → Lib.splitK [32] 0 k (joinC 32 ps) = ps
  | _, [], h, _, _ => absurd rfl h
  | 0, [p], _, _, _ => rfl
  | 0, p :: q :: r, _, h, _ => by simp at h
  | k + 1, [p], _, _, h => by
    show Lib.splitK [32] 0 (k + 1) p = [p]
    unfold Lib.splitK
    rw [index_miss 32 [] p (h p (by simp))]
    rfl
  | k + 1, p :: q :: r, _, hl, h => by
    show Lib.splitK [32] 0 (k + 1) (p ++ 32 :: joinC 32 (q :: r)) = _
    unfold Lib.splitK
    have hi : Lib.index (p ++ 32 :: joinC 32 (q :: r)) [32] = p.length := by
      have := index_hit 32 [] (joinC 32 (q :: r)) p (h p (by simp))
      simpa using this
    rw [hi]
    have hne : ((p.length : Int) == -1) = false := by rw [beq_eq_false_iff_ne]; omega
    rw [hne]
    have ih := splitJ_join k (q :: r) (by simp) (by simp at hl ⊢; omega) (fun x hx => h x (List.mem_cons_of_mem _ hx))
    have e1 : (p ++ 32 :: joinC 32 (q :: r)).take ((p.length : Int).toNat + 0) = p := by simp
    have e2 : (p ++ 32 :: joinC 32 (q :: r)).drop ((p.length : Int).toNat + [(32 : UInt8)].length) = joinC 32 (q :: r) := by
      simp
    rw [if_neg (by decide), e1, e2, ih]
theorem splitK_ne (s0 : Nat) (sep : List UInt8) : ∀ (k : Nat) (s : List UInt8), Lib.splitK sep s0 k s ≠ []
  | 0, s => by simp [Lib.splitK]
  | k + 1, s => by unfold Lib.splitK; split <;> simp
theorem splitK_len (sep : List UInt8) : ∀ (k : Nat) (s : List UInt8), ∀ p ∈ Lib.splitK sep 0 k s, p.length ≤ s.length
  | 0, s, p, h => by
    rw [Lib.splitK] at h
    rw [List.mem_singleton.1 h]; exact Nat.le_refl _
  | k + 1, s, p, h => by
    unfold Lib.splitK at h
    split at h
    · rw [List.mem_singleton.1 h]; exact Nat.le_refl _
    · rcases List.mem_cons.1 h with rfl | h
      · rw [List.length_take]; exact Nat.min_le_right _ _
      · exact Nat.le_trans (splitK_len sep k _ p h) (by rw [List.length_drop]; omega)
/-- The pieces that the program splits a text into: 61 at most. -/
def psJ (l : List UInt8) : List (List UInt8) := Lib.splitK [32] 0 (min 61 (l.length + 1) - 1) l
theorem psJ_ne (l : List UInt8) : psJ l ≠ [] := splitK_ne _ _ _ _
theorem psJ_len {l p : List UInt8} (h : p ∈ psJ l) : p.length ≤ l.length := splitK_len _ _ _ p h
theorem psJ_count (l : List UInt8) : (psJ l).length ≤ 61 := by
  have h := Lib.splitB_length_le ⟨#[32]⟩ 0 (min 61 (l.length + 1) - 1) ⟨l.toArray⟩
  have e := Lib.splitB_data ⟨#[32]⟩ 0 (min 61 (l.length + 1) - 1) ⟨l.toArray⟩
  have h2 := congrArg List.length e
  rw [List.length_map] at h2
  have h3 : (psJ l).length = (Lib.splitB ⟨#[32]⟩ 0 (min 61 (l.length + 1) - 1) ⟨l.toArray⟩).length := h2.symm
  omega
/-- The pieces of a text of jobs. -/
theorem psJ_ok {l : List UInt8} (h : okJ l = true) (hn : l ≠ []) : psJ l = (jsOf l).map textJ := by
  obtain ⟨h1, h2, h3, h4⟩ := ok_parts' h hn
  have h5 := (wrsB_iff.1 h1).1
  have hlen : (jsOf l).length ≤ l.length + 1 := by
    have := pieces_count 32 l
    rw [h2, List.length_map] at this
    exact this
  have := splitJ_join (min 61 (l.length + 1) - 1) ((jsOf l).map textJ) (by simpa using h4) (by rw [List.length_map]; omega) (fun p hp => by
    obtain ⟨j, hj, rfl⟩ := List.mem_map.1 hp
    exact text_space ((wrsB_iff.1 h1).2 j hj))
  have e : joinC 32 ((jsOf l).map textJ) = l := h3
  rw [e] at this
  exact this

theorem splitJ_any (w : World) (l : List UInt8) (hl : l.length ≤ 1100000) (hv : Vars w) :
    Calls Tryd.prog 34 #[str l, .string ⟨#[32]⟩, .int .i64 61] w fun e w' => ∃ v, e = .returned v ∧ OwnS w' w.heap.size v (psJ l) ∧ Below w.heap.size w w' := by
  obtain ⟨m, hm⟩ := hv.ml
  have hsz : (⟨l.toArray⟩ : ByteArray).size = l.length := by simp [ByteArray.size]
  refine (Any.strings_SplitN { Tryd.laysM147 with } (by kernel_rfl) ⟨l.toArray⟩ ⟨#[32]⟩ 61 m w (by rw [hsz]; omega) hm (by decide) (by decide) (by decide)).mono ?_
  rintro e w' ⟨rfl, rfl⟩
  have hmap := Lib.splitB_data ⟨#[32]⟩ 0 (min 61 ((⟨l.toArray⟩ : ByteArray).size + 1) - 1) ⟨l.toArray⟩
  have hle := Lib.splitB_length_le ⟨#[32]⟩ 0 (min 61 ((⟨l.toArray⟩ : ByteArray).size + 1) - 1) ⟨l.toArray⟩
  have hp : (Lib.splitB ⟨#[32]⟩ 0 (min 61 ((⟨l.toArray⟩ : ByteArray).size + 1) - 1) ⟨l.toArray⟩).map (·.data.toList) = psJ l := by rw [hmap, hsz]; rfl
  generalize Lib.splitB ⟨#[32]⟩ 0 (min 61 ((⟨l.toArray⟩ : ByteArray).size + 1) - 1) ⟨l.toArray⟩ = ps at hp hle
  have hlen : (psJ l).length = ps.length := by rw [← hp, List.length_map]
  have hstr : (psJ l).map (fun x => (str x : Value)) = ps.map Value.string := by
    rw [← hp, List.map_map]
    exact List.map_congr_left (fun b _ => rfl)
  refine ⟨_, rfl, ?_, bl_alloc (Below.refl _ _) _⟩
  unfold OwnS
  rw [hlen, hstr]
  refine ⟨by simp, .inr ⟨w.heap.size, _, _, rfl, Nat.le_refl _, heap_alloc_new w _, by omega, by unfold maxLen; omega, ?_, ?_⟩⟩
  · rw [Lib.cellsOf_size (by omega)]; omega
  · simp [Lib.cellsOf]

end Go.Proofs.YthdclaljgimclaaDoor
