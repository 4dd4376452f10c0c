/- The walks of the exact laws of FormatJobs and ParseJobs. -/
import Derived.Test.YthdclaljgimclaaDoorExJ
import Derived.Test.YthdclaljgimclaaDoorDt
import Derived.Test.YthdclaljgimclaaDoorQPk
namespace Go.Proofs.YthdclaljgimclaaDoor
open Go.RowKit
set_option linter.unusedVariables false

theorem xiParse (w : World) (l : List UInt8) (hl : l.length ≤ 1100000) (hv : Vars w) (ht : TG w) (js : List Jb) (b : Bool) (hj : jsOf l = js ∧ okJ l = b) :
    Calls Tryd.prog 13 #[str l] w (JsRes2 js b w) := by
  obtain ⟨rfl, rfl⟩ := hj; exact iParseJ_is w l hl hv ht
theorem xsParse (w : World) (l : List UInt8) (hl : l.length ≤ 1100000) (js : List Jb) (b : Bool) (hj : jsOf l = js ∧ okJ l = b) :
    Calls Tryd.prog 16 #[str l] w (JsRes2 js b w) := by
  obtain ⟨rfl, rfl⟩ := hj; exact sParseJ_is w l hl
theorem xjsOf_len (l : List UInt8) : (jsOf l).length ≤ 60 := by
  cases h : okJ l
  · rw [js_no h]; exact Nat.zero_le _
  · exact (wrsB_iff.1 (text_ok h).1).1
theorem OwnJ.readsN' {w : World} {B : Nat} {A : Option Addr} {n c : Nat} {js : List Jb} (h : OwnJ w B (.slice A n c) js) (hn : js.length = n) : Jbs w w.heap.size A n js := by
  subst hn
  exact h.reads.2
theorem OwnJ.kept_down' {w w' : World} {B M : Nat} {v : Value} {js : List Jb} {row : Option Nat} (h : OwnJ w B v js) (hg : w.grownBy w' row) (hv : ∀ k, v.ownBlock = some k → k < M) (hr : ∀ k, row = some k → M ≤ k) : OwnJ w' B v js := by
  refine World.ownsRow.kept h hg ?_
  rcases he : v.ownBlock with _ | k
  · exact .inl rfl
  · right
    intro e
    have := hv k he
    have := hr k e.symm
    omega

set_option maxRecDepth 100000 in
set_option maxHeartbeats 4000000 in
theorem fnExactParseJobs_walk (w : World) (l : List UInt8) (hmax : l.length ≤ 9223372036854775807) (hv : Vars w) (ht : TG w) :
    Calls Tryd.prog 9 #[str l] w fun e w' => e = .returned (.bool true) ∧ Below w.heap.size w w' := by
  have HTG := Lib.hid ht
  have HVS := Lib.hid hv
  clear ht hv
  by_cases hn : 1048576 < l.length
  · go_enter Tryd.func9, Tryd.ntmps9
    go_wp2
    go_ret
    exact ⟨rfl, Below.refl _ _⟩
  obtain ⟨us, b, hu⟩ : ∃ us b, jsOf l = us ∧ okJ l = b := ⟨_, _, rfl, rfl⟩
  have hul : us.length ≤ 60 := by rw [← hu.1]; exact xjsOf_len l
  have HU := Lib.hid hu
  clear hu
  have hll : l.length ≤ 1100000 := by omega
  go_enter Tryd.func9, Tryd.ntmps9
  go_wp2_with fail
  refine (xsParse w l hll us b HU.out).mono ?_
  rintro e w1 ⟨Ay, cy, rfl, ho, hb⟩
  have HOy1 := Lib.hid ho
  have HMy := Lib.hid (World.ownsRow.lt ho)
  have hs1 : w.heap.size ≤ w1.heap.size := hb.size
  have HB1 := Lib.hid hb
  clear ho hb
  go_wp2_with fail
  refine (xiParse w1 l hll (HVS.out.below HB1.out) (HTG.out.below HB1.out) us b HU.out).mono ?_
  rintro e w2 ⟨Ag, cg, rfl, ho, hb⟩
  have HOg2 := Lib.hid ho
  have HMg := Lib.hid (World.ownsRow.lt ho)
  have hs2 : w1.heap.size ≤ w2.heap.size := hb.size
  have HB2 := Lib.hid (bl_trans HB1.out hb)
  have HOy2 := Lib.hid (HOy1.out.below hb)
  clear ho hb HOy1
  go_wp2_with fail
  refine (eqJobS_any w2 Ag Ay _ cg cy us HOg2.out.reads.2 HOy2.out.reads.2 (by omega)).mono ?_
  rintro e w3 ⟨rfl, hb⟩
  have hs3 : w2.heap.size ≤ w3.heap.size := hb.size
  have HB3 := Lib.hid (bl_trans HB2.out hb)
  have HOy3 := Lib.hid (HOy2.out.below hb)
  have HOg3 := Lib.hid (HOg2.out.below hb)
  clear hb HOy2 HOg2
  go_wp2_with fail
  refine (jmark_own w3 _ Ag _ cg 1 us HOg3.out (by omega) (by omega)).mono ?_
  rintro e w4 ⟨rfl, ho, hg⟩
  have HOg4 := Lib.hid ho
  have HB4 := Lib.hid (HB3.out.grown hg HB3.out.size (fun q e => by have := (World.ownsRow.lt HOg3.out q e).1; omega))
  have hs4 : w3.heap.size ≤ w4.heap.size := hg.size
  have HOy4 := Lib.hid (HOy3.out.kept_down' hg (M := w1.heap.size) (fun q e => by have := (HMy.out q e).2; omega) (fun q e => by have := (HMg.out q e).1; omega))
  clear ho hg HOy3 HOg3
  go_wp2_with fail
  refine (jheld_any w4 Ag us.length cg 1 (OwnJ.readsN' HOg4.out (jmarks_len _ _)) (by omega) (by omega)).mono ?_
  rintro e w0 ⟨rfl, rfl⟩
  go_wp2_with fail
  refine (xiParse w4 l hll (HVS.out.below HB4.out) (HTG.out.below HB4.out) us b HU.out).mono ?_
  rintro e w5 ⟨Ah, ch, rfl, ho, hb⟩
  have HOh5 := Lib.hid ho
  have hs5 : w4.heap.size ≤ w5.heap.size := hb.size
  have HB5 := Lib.hid (bl_trans HB4.out hb)
  have HOy5 := Lib.hid (HOy4.out.below hb)
  have HOg5 := Lib.hid (HOg4.out.below hb)
  clear ho hb HOy4 HOg4
  go_wp2_with fail
  refine (eqJobS_any w5 Ah Ay _ ch cy us HOh5.out.reads.2 HOy5.out.reads.2 (by omega)).mono ?_
  rintro e w6 ⟨rfl, hb⟩
  have hs6 : w5.heap.size ≤ w6.heap.size := hb.size
  have HB6 := Lib.hid (bl_trans HB5.out hb)
  have HOg6 := Lib.hid (HOg5.out.below hb)
  clear hb HOg5 HOy5 HOh5
  go_wp2_with fail
  refine (jheld_any w6 Ag us.length cg 1 (OwnJ.readsN' HOg6.out (jmarks_len _ _)) (by omega) (by omega)).mono ?_
  rintro e w0 ⟨rfl, rfl⟩
  go_wp2
  go_ret
  exact ⟨rfl, HB6.out⟩

set_option maxRecDepth 100000 in
set_option maxHeartbeats 4000000 in
theorem fnExactFormatJobs_walk (w : World) (Aj : Option Addr) (nj cj : Nat) (js : List Jb) (hj : Jbs w w.heap.size Aj nj js) (hjmax : nj ≤ 9223372036854775807) (ht : TG w) :
    Calls Tryd.prog 8 #[.slice Aj nj cj] w fun e w' => e = .returned (.bool true) ∧ Below w.heap.size w w' := by
  have HTG := Lib.hid ht
  have HJ := Lib.hid hj
  have HJL := Lib.hid hj.len
  clear hj ht
  by_cases hnj : (1048576 : Int) < (nj : Int)
  · go_enter Tryd.func8, Tryd.ntmps8
    go_wp2_with fail
    refine (szJ_any _ Aj nj cj hjmax 1048576 (by omega) (by omega)).mono ?_
    rintro e w1 ⟨rfl, rfl⟩
    rw [if_pos (by omega)]
    go_wp2
    go_ret
    exact ⟨rfl, Below.refl _ _⟩
  have hjl : js.length ≤ 1048576 := by rw [HJL.out]; omega
  obtain ⟨r, hr⟩ : ∃ r, fmtJ js = r := ⟨_, rfl⟩
  have hrl : r.length ≤ 720 := by rw [← hr]; exact fmt_len js
  have HR := Lib.hid hr
  clear hr
  go_enter Tryd.func8, Tryd.ntmps8
  go_wp2_with fail
  refine (szJ_any _ Aj nj cj hjmax 1048576 (by omega) (by omega)).mono ?_
  rintro e w1 ⟨rfl, rfl⟩
  rw [if_neg (by omega)]
  go_wp2_with fail
  refine (toJobS_any w Aj nj cj js HJ.out (by omega)).mono ?_
  rintro e w2 ⟨Au, rfl, ho, hb⟩
  have HOu2 := Lib.hid ho
  have hs2 : w.heap.size ≤ w2.heap.size := hb.size
  have HB2 := Lib.hid hb
  clear ho hb
  go_wp2_with fail
  refine (sFmtJ_to w2 (some ⟨Au, 0, none⟩) _ _ js HOu2.out.reads.2 r HR.out).mono ?_
  rintro e w3 ⟨rfl, hb⟩
  have hs3 : w2.heap.size ≤ w3.heap.size := hb.size
  have HB3 := Lib.hid (bl_trans HB2.out hb)
  clear hb HOu2
  go_wp2_with fail
  refine (toJobS_any w3 Aj nj cj js ((HJ.out.below HB3.out).more HB3.out.size) (by omega)).mono ?_
  rintro e w4 ⟨Ax, rfl, ho, hb⟩
  have HOx4 := Lib.hid ho
  have hs4 : w3.heap.size ≤ w4.heap.size := hb.size
  have HB4 := Lib.hid (bl_trans HB3.out hb)
  clear ho hb
  go_wp2_with fail
  refine (iFmtJ_to w4 (some ⟨Ax, 0, none⟩) _ _ js HOx4.out.reads.2 (HTG.out.below HB4.out) r HR.out).mono ?_
  rintro e w5 ⟨rfl, hb⟩
  have hs5 : w4.heap.size ≤ w5.heap.size := hb.size
  have HB5 := Lib.hid (bl_trans HB4.out hb)
  have HOx5 := Lib.hid (HOx4.out.below hb)
  clear hb HOx4
  go_wp2_with fail
  refine (toJobS_any w5 Aj nj cj js ((HJ.out.below HB5.out).more HB5.out.size) (by omega)).mono ?_
  rintro e w6 ⟨Az, rfl, ho, hb⟩
  have HOz6 := Lib.hid ho
  have hs6 : w5.heap.size ≤ w6.heap.size := hb.size
  have HB6 := Lib.hid (bl_trans HB5.out hb)
  have HOx6 := Lib.hid (HOx5.out.below hb)
  clear ho hb HOx5
  go_wp2_with fail
  refine (eqJobS_any w6 (some ⟨Ax, 0, none⟩) (some ⟨Az, 0, none⟩) _ _ _ js HOx6.out.reads.2 HOz6.out.reads.2 (by omega)).mono ?_
  rintro e w7 ⟨rfl, hb⟩
  have HB7 := Lib.hid (bl_trans HB6.out hb)
  clear hb HOx6 HOz6
  go_wp2
  go_ret
  exact ⟨rfl, HB7.out⟩

end Go.Proofs.YthdclaljgimclaaDoor
