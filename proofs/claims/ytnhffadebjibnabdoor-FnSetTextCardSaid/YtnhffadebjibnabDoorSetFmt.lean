/- The text of a set of tasks; contracts of FormatSet, in the program and in the reference: both return it, and write nothing that was there. -/
import Derived.Test.YtnhffadebjibnabDoorFmt
import Derived.Test.YtnhffadebjibnabDoorList
import Derived.Test.YtnhffadebjibnabDoorShJ
namespace Go.Proofs.YtnhffadebjibnabDoor
open Go.RowKit

def Tk.text (t : Tk) : List UInt8 := textL t.lo t.hi t.du t.ev t.cr
def semi : List UInt8 := [59, 32]
def joinT (ts : List Tk) : List UInt8 := Lib.join (ts.map Tk.text) semi
/-- The text of a set. -/
def setText (ts : List Tk) : List UInt8 := if setB ts then joinT ts else []

theorem join_two (a b : List UInt8) (r : List (List UInt8)) : Lib.join (a :: b :: r) semi = a ++ semi ++ Lib.join (b :: r) semi := by
  simp [Lib.join, List.intercalate, List.intersperse]
theorem join_one (a : List UInt8) : Lib.join [a] semi = a := by simp [Lib.join, List.intercalate, List.intersperse]
theorem join_nil : Lib.join [] semi = [] := by simp [Lib.join, List.intercalate, List.intersperse]

theorem join_app : ∀ (xs ys : List (List UInt8)), xs ≠ [] → ys ≠ [] → Lib.join (xs ++ ys) semi = Lib.join xs semi ++ semi ++ Lib.join ys semi
  | [], _, h, _ => absurd rfl h
  | _, [], _, h => absurd rfl h
  | [a], b :: r, _, _ => by rw [List.singleton_append, join_two, join_one]
  | a :: b :: r, c :: s, _, _ => by
    rw [List.cons_append, List.cons_append, join_two, join_two, ← List.cons_append, join_app (b :: r) (c :: s) (by simp) (by simp)]
    simp

theorem join_len : ∀ (xs : List (List UInt8)), (∀ x ∈ xs, x.length ≤ 30) → (Lib.join xs semi).length ≤ 32 * xs.length
  | [], _ => by rw [join_nil]; simp
  | [a], h => by rw [join_one]; have := h a (by simp); simp; omega
  | a :: b :: r, h => by
    rw [join_two]
    have h1 := h a (by simp)
    have h2 := join_len (b :: r) (fun x hx => h x (List.mem_cons_of_mem _ hx))
    simp [semi] at h2 ⊢
    omega

theorem text_len (t : Tk) : t.text.length ≤ 30 := textL_len _ _ _ _ _
theorem joinT_len (ts : List Tk) : (joinT ts).length ≤ 32 * ts.length := by
  have := join_len (ts.map Tk.text) (fun x hx => by
    obtain ⟨t, _, rfl⟩ := List.mem_map.1 hx
    exact text_len t)
  simpa [joinT] using this

theorem joinT_first {ts : List Tk} {t : Tk} (h : ts[0]? = some t) : joinT (ts.take (0 + 1)) = joinT (ts.take 0) ++ t.text := by
  obtain ⟨hk, rfl⟩ := List.getElem?_eq_some_iff.1 h
  rw [List.take_succ_eq_append_getElem hk]
  simp [joinT, join_one, join_nil]
theorem joinT_next {ts : List Tk} {t : Tk} {k : Nat} (h : ts[k]? = some t) (hk0 : 0 < k) : joinT (ts.take (k + 1)) = joinT (ts.take k) ++ semi ++ t.text := by
  obtain ⟨hk, rfl⟩ := List.getElem?_eq_some_iff.1 h
  rw [List.take_succ_eq_append_getElem hk, joinT, List.map_append, join_app _ _ (by simp; constructor <;> (try intro e) <;> first | omega | (subst e; simp at hk)) (by simp), List.map_cons, List.map_nil, join_one]
  rfl

set_option maxRecDepth 100000 in
set_option maxHeartbeats 1000000 in
theorem sFormatSet_any (w : World) (A : Option Addr) (n c : Nat) (ts : List Tk) (h : Tks w w.heap.size A n ts) (hn : n ≤ 1048576) :
    Calls Tryd.prog 22 #[.slice A n c] w (StrRes (setText ts) w) := by
  have H := Lib.hid h
  have HL := Lib.hid h.len
  clear h
  cases hs : setB ts
  · go_enter Tryd.func22, Tryd.ntmps22
    go_wp2_with (go_at_call 24; refine (sSetValid_any _ _ _ _ ts H.out hn).mono ?_; rintro e w1 ⟨rfl, hb⟩)
    go_ret
    exact ⟨by simp [setText, hs], hb⟩
  have h5 : n ≤ 5 := by
    unfold setB at hs
    simp at hs
    have := HL.out
    omega
  go_enter Tryd.func22, Tryd.ntmps22
  go_wp2_with fail
  refine (sSetValid_any _ _ _ _ ts H.out hn).mono ?_
  rintro e w1 ⟨rfl, hb⟩
  have HB1 := Lib.hid hb
  have HS := Lib.hid hs
  clear hb
  go_wp2
  clear hs
  go_loopw [3, 4] (fun v i wr => ∃ (k : Nat) (o : List UInt8), k ≤ n ∧ i = .int .i64 k ∧ v = str o ∧ Hid (o = joinT (ts.take k)) ∧ Below w.heap.size w wr) (fun _ i _ => n - (intOf i).toNat)
  case atStart => exact ⟨0, [], Nat.zero_le _, rfl, rfl, by show _ = _; simp [joinT, join_nil], HB1.out⟩
  case round =>
    obtain ⟨k, o, hk, rfl, rfl, ho, hb⟩ := hrel
    have HO := Lib.hid ho.out
    have HB := Lib.hid hb
    have hsz : w.heap.size ≤ wr.heap.size := hb.size
    clear ho hb
    have hol : o.length ≤ 160 := by rw [HO.out]; exact Nat.le_trans (joinT_len _) (by rw [List.length_take]; omega)
    by_cases hlt : k < n
    · obtain ⟨t, ht⟩ : ∃ t, ts[k]? = some t := ⟨ts[k]'(by rw [HL.out]; exact hlt), List.getElem?_eq_getElem _⟩
      obtain ⟨b, of, rfl, hbl, c0, c1, c2, c3, c4⟩ := (H.out.below HB.out).at_ k t ht
      have tl := textL_len t.lo t.hi t.du t.ev t.cr
      have HT := Lib.hid ht
      clear ht
      by_cases h0 : k = 0
      · subst h0
        simp only [Nat.zero_mul, Nat.add_zero] at c0 c1 c2 c3 c4
        have HN : Hid (joinT (ts.take (0 + 1)) = o ++ textL t.lo t.hi t.du t.ev t.cr) := by show _ = _; rw [joinT_first HT.out, HO.out]; rfl
        go_wp2_with (go_at_call 16; refine (sFormatTask_any _ _ _ _ _ _).mono ?_; rintro e wa ⟨rfl, ha⟩)
        go_roundw
        case rel => exact ⟨0 + 1, o ++ textL t.lo t.hi t.du t.ev t.cr, by omega, by go_num, congrArg Value.string (ByteArray.mk_append_mk o _), HN.out.symm, bl_trans HB.out ha⟩
        case measure => simp [intOf]; omega
      · have h1 : 0 < k := by omega
        have HN : Hid (joinT (ts.take (k + 1)) = o ++ semi ++ textL t.lo t.hi t.du t.ev t.cr) := by show _ = _; rw [joinT_next HT.out h1, HO.out]; rfl
        go_wp2_with (go_at_call 16; refine (sFormatTask_any _ _ _ _ _ _).mono ?_; rintro e wa ⟨rfl, ha⟩)
        go_roundw
        case rel => exact ⟨k + 1, o ++ semi ++ textL t.lo t.hi t.du t.ev t.cr, by omega, by go_num, congrArg Value.string (ByteArray.ext (by simp [ByteArray.data_append, semi])), HN.out.symm, bl_trans HB.out ha⟩
        case measure => simp [intOf]; omega
    · obtain rfl : k = n := by omega
      go_wp2
      go_ret
      exact ⟨by rw [setText, HS.out, if_pos rfl, HO.out, List.take_of_length_le (by rw [HL.out]; omega)]; rfl, HB.out⟩

theorem info_str : (Tryd.prog.info? 9).map (fun i => (i.zero, i.size, i.bytes)) = some (some (.string ⟨#[]⟩), 1, 16) := by kernel_rfl

/-- The slice value v is the call's own and holds the strings xs. -/
def OwnS (w : World) (B : Nat) (v : Value) (xs : List (List UInt8)) : Prop := w.ownsRow B 9 1 v xs.length (xs.map fun x => (str x : Value))

theorem OwnS.form {w : World} {B : Nat} {v : Value} {zs : List (List UInt8)} (h : OwnS w B v zs) : ∃ A c, v = .slice A zs.length c := by
  rcases h.2 with ⟨e, h0⟩ | ⟨g, cap, cur, e, _⟩
  · exact ⟨none, 0, by rw [e, h0]⟩
  · exact ⟨_, cap, e⟩
theorem OwnS.snoc {w : World} {B : Nat} {v : Value} {zs : List (List UInt8)} {z : List UInt8} (h : w.ownsRow B 9 1 v (zs.length + 1) (zs.map (fun x => (str x : Value)) ++ [str z])) : OwnS w B v (zs ++ [z]) := by
  unfold OwnS
  rw [List.map_append, List.length_append]
  simpa using h
def texts (ts : List Tk) : List (List UInt8) := ts.map Tk.text
theorem texts_take {ts : List Tk} {k : Nat} {t : Tk} (h : ts[k]? = some t) : texts (ts.take (k + 1)) = texts (ts.take k) ++ [t.text] := by
  obtain ⟨hk, rfl⟩ := List.getElem?_eq_some_iff.1 h
  rw [List.take_succ_eq_append_getElem hk]
  simp only [texts, List.map_append, List.map_cons, List.map_nil]
theorem texts_len (ts : List Tk) : (texts ts).length = ts.length := by simp [texts]

theorem own_s {w w' : World} {B : Nat} {v : Value} {n : Nat} {xs : List Value} (h : w.ownsRow B 9 1 v n xs) (hb : Below w.heap.size w w') : w'.ownsRow B 9 1 v n xs :=
  h.kept (row := none) ⟨hb.os, hb.tape, hb.output, hb.size, fun k hk _ => hb.block k hk⟩ (by cases v.ownBlock <;> simp)

/-- strings.Join over a slice of the call's own. -/
theorem join_any (w : World) (B : Nat) (v : Value) (xs : List (List UInt8)) (ho : OwnS w B v xs) (hl : (Lib.join xs semi).length ≤ 1000) (hn : xs.length ≤ 1000) :
    Calls Tryd.prog 50 #[v, .string ⟨#[59, 32]⟩] w (StrRes (Lib.join xs semi) w) := by
  have e : ∀ ys : List (List UInt8), (ys.map fun x => (⟨x.toArray⟩ : ByteArray)).map (fun b => b.data.toList) = ys := fun ys => by
    rw [List.map_map]
    induction ys with
    | nil => rfl
    | cons y ys ih => rw [List.map_cons, ih]; rfl
  by_cases h0 : xs = []
  · subst h0
    obtain ⟨A, c, rfl⟩ := ho.form
    refine (Any.strings_Join_none Tryd.lays156 Tryd.Builder_Extra_156 A c ⟨#[59, 32]⟩ w).mono ?_
    rintro e w' ⟨rfl, rfl⟩
    exact ⟨by rw [join_nil], Below.refl _ _⟩
  · rcases ho.2 with ⟨_, hz⟩ | ⟨g, cap, cur, rfl, hB, hg, hrest⟩
    · exact absurd (List.length_eq_zero_iff.1 hz) h0
    · have hlt : g < w.heap.size := by
        rcases Nat.lt_or_ge g w.heap.size with hlt | hge
        · exact hlt
        · rw [Array.getElem?_eq_none hge] at hg; cases hg
      have hc := ho.cells (g := g) rfl
      have hcap : xs.length ≤ cap := hrest.1
      have h := Any.strings_Join Tryd.lays156 Tryd.Builder_Extra_156 g 0 cap (xs.map fun x => (⟨x.toArray⟩ : ByteArray)) ⟨#[59, 32]⟩ w (fun j x hx => by
        rw [List.getElem?_map] at hx
        obtain ⟨y, hy, rfl⟩ := Option.map_eq_some_iff.1 hx
        have := hc j (str y) (by rw [List.getElem?_map, hy]; rfl)
        have ea : (⟨g, 0, none⟩ : Addr).add j = ⟨g, j, none⟩ := by unfold Addr.add; split <;> simp_all
        rw [ea] at this
        rw [Nat.zero_add]
        exact this) hlt (by rw [List.length_map]; omega) (by rw [List.length_map]; exact hcap) (by rw [e]; exact Nat.le_trans hl (by decide))
      rw [e, List.length_map] at h
      exact h.mono fun e w' hh => hh

set_option maxRecDepth 100000 in
set_option maxHeartbeats 1000000 in
theorem iFormatSet_any (w : World) (A : Option Addr) (n c : Nat) (ts : List Tk) (h : Tks w w.heap.size A n ts) (hn : n ≤ 1048576) :
    Calls Tryd.prog 21 #[.slice A n c] w (StrRes (setText ts) w) := by
  obtain ⟨i0, hi, hz0, hz1, hz2⟩ := info_parts info_str
  have H := Lib.hid h
  have HL := Lib.hid h.len
  clear h
  cases hs : setB ts
  · go_enter Tryd.func21, Tryd.ntmps21
    go_wp2_with (go_at_call 23; refine (iSetValid_any _ _ _ _ ts H.out hn).mono ?_; rintro e w1 ⟨rfl, hb⟩)
    go_ret
    exact ⟨by simp [setText, hs], hb⟩
  have h5 : n ≤ 5 := by
    unfold setB at hs
    simp at hs
    have := HL.out
    omega
  go_enter Tryd.func21, Tryd.ntmps21
  go_wp2_with fail
  refine (iSetValid_any _ _ _ _ ts H.out hn).mono ?_
  rintro e w1 ⟨rfl, hb⟩
  have HB1 := Lib.hid hb
  have hsz1 : w.heap.size ≤ w1.heap.size := hb.size
  have HS := Lib.hid hs
  clear hb
  go_wp2_with (at_make; refine wpList_make_own _ rfl _ _ 58 rfl w.heap.size 9 i0 _ 1 Tryd.underlying58 hi hz0 hz1 .i64 .i64 _ n rfl rfl rfl (by rw [hz2]; omega) (by unfold maxLen; omega) hsz1 ?_; intro w2 hown0 hgrow0)
  have HO0 := Lib.hid (show OwnS w2 w.heap.size _ [] from hown0)
  have HB2 := Lib.hid (HB1.out.grown hgrow0 hsz1 (fun k e => by cases e))
  clear hown0 hgrow0 hs
  go_loopw [3, 14] (fun v i wr => ∃ k : Nat, k ≤ n ∧ i = .int .i64 k ∧ OwnS wr w.heap.size v (texts (ts.take k)) ∧ Below w.heap.size w wr) (fun _ i _ => n - (intOf i).toNat)
  case atStart => exact ⟨0, Nat.zero_le _, rfl, HO0.out, HB2.out⟩
  case round =>
    obtain ⟨k, hk, rfl, ho, hb⟩ := hrel
    have HO := Lib.hid ho
    have HB := Lib.hid hb
    have hsz : w.heap.size ≤ wr.heap.size := hb.size
    clear ho hb
    by_cases hlt : k < n
    · obtain ⟨t, ht⟩ : ∃ t, ts[k]? = some t := ⟨ts[k]'(by rw [HL.out]; exact hlt), List.getElem?_eq_getElem _⟩
      obtain ⟨b, o, rfl, hbl, c0, c1, c2, c3, c4⟩ := (H.out.below HB.out).at_ k t ht
      have HT := Lib.hid (texts_take ht)
      obtain ⟨lo, hi', du, ev, cr⟩ := t
      dsimp only at c0 c1 c2 c3 c4
      have HT' : Hid (texts (ts.take (k + 1)) = texts (ts.take k) ++ [textL lo hi' du ev cr]) := HT.out
      clear ht
      have hlen : (texts (ts.take k)).length ≤ 5 := by rw [texts_len, List.length_take]; omega
      have b1 : (texts (ts.take k)).length + 1 ≤ maxLen := by unfold maxLen; omega
      have b2 : ((texts (ts.take k)).length + 1) * 16 ≤ 140737488355328 := by omega
      go_wp2_with fail
      refine (iFormatTask_any _ _ _ _ _ _).mono ?_
      rintro e wa ⟨rfl, ha⟩
      have sa : w.heap.size ≤ wa.heap.size := by have := ha.size; simp at this; omega
      have HOa := Lib.hid (show OwnS wa w.heap.size _ _ from own_s (World.ownsRow.alloc HO.out _) ha)
      have HBa := Lib.hid (bl_trans (bl_alloc HB.out _) ha)
      clear ha
      go_wp2_with (at_builtin; refine wpList_append_own _ rfl (.tmp 18) (.tmp 21) 58 rfl w.heap.size 9 i0 _ 1 16 Tryd.underlying58 hi hz0 hz1 hz2 rfl (by decide) _ (texts (ts.take k)).length ((texts (ts.take k)).map fun x => (str x : Value)) rfl (World.ownsRow.alloc HOa.out _) ⟨wa.heap.size, 0, none⟩ 1 1 [str (textL lo hi' du ev cr)] rfl rfl (by have hx := cell_one_new wa (str (textL lo hi' du ev cr)) 9; simpa using hx) (by intro u hu; simp at hu; subst hu; rfl) b1 b2 (by simp; omega) ?_; intro v' w4 hown' hgrow _)
      have HO4 := Lib.hid (OwnS.snoc hown')
      have HB4 := Lib.hid ((bl_alloc HBa.out _).grown hgrow (by simp; omega) (fun k e => (World.ownsRow.lt HOa.out k e).1))
      clear hown' hgrow hlen b1 b2
      go_wp2
      go_roundw
      case rel => exact ⟨k + 1, by omega, by go_num, by rw [HT'.out]; exact HO4.out, HB4.out⟩
      case measure => simp [intOf]; omega
    · obtain rfl : k = n := by omega
      have hev : texts (ts.take k) = texts ts := by rw [List.take_of_length_le (by rw [HL.out]; omega)]
      have ho := HO.out
      rw [hev] at ho
      have HJ := Lib.hid ho
      clear ho HO hev
      go_wp2_with fail
      refine (join_any wr w.heap.size _ (texts ts) HJ.out (Nat.le_trans (joinT_len ts) (by rw [HL.out]; omega)) (by rw [texts_len, HL.out]; omega)).mono ?_
      rintro e w5 ⟨rfl, hb⟩
      have HB5 := Lib.hid (bl_trans HB.out hb)
      clear hb
      go_wp2
      go_ret
      exact ⟨by rw [setText, HS.out, if_pos rfl]; rfl, HB5.out⟩

end Go.Proofs.YtnhffadebjibnabDoor
