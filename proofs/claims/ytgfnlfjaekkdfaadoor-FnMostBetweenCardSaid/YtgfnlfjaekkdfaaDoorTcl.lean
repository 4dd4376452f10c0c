/- Contract of slices.Clone at tasks. -/
import Derived.Test.YtgfnlfjaekkdfaaDoorNB
import Derived.Test.YtgfnlfjaekkdfaaDoorNA
import Derived.Deep.RegionWith
namespace Go.Proofs.YtgfnlfjaekkdfaaDoor
open Go.RowKit
set_option linter.unusedVariables false

set_option maxRecDepth 100000 in
set_option maxHeartbeats 2000000 in
theorem iCloneT_is (w : World) (A : Option Addr) (n c : Nat) (zs : List Tk) (h : Tks w w.heap.size A n zs) (hn : n ≤ 1048576) :
    Calls Tryd.prog 23 #[.slice A n c] w (LsRes zs w) := by
  obtain ⟨i0, hi0, hz0, hz1, hz2⟩ := info_parts info_task
  have hlen := h.len
  rcases A with _ | a
  · have hj : zs = [] := by
      rcases zs with _ | ⟨j, js⟩
      · rfl
      · obtain ⟨b, o, e, _⟩ := h.at_ 0 j rfl
        cases e
    subst hj
    clear h hlen
    have hnil := fun (w : World) => Lib.run_eql_slice_nil (P := Tryd.prog) w 23 29 none n c 0 0 Tryd.underlying23
    go_enter Tryd.func23, Tryd.ntmps23
    go_wp2
    go_ret
    exact ⟨none, 0, rfl, Own.nil_ _ _, Below.refl _ _⟩
  · have hcl : (zs.flatMap Tk.cells).length = n * 5 := by rw [cells_length, hlen]
    have hnews : ∀ j u, (zs.flatMap Tk.cells)[j]? = some u → (w.alloc (.cells #[] 29)).cell? (a.add j) = some u := by
      intro j u hu
      rcases zs with _ | ⟨j0, js0⟩
      · simp at hu
      · obtain ⟨b, o, e, hb, _⟩ := h.at_ 0 j0 rfl
        injection e with e
        subst e
        exact Tks.cells (h.below (bl_alloc (Below.refl _ w) _)) j u hu
    have HN := Lib.hid hnews
    have HC := Lib.hid hcl
    have HL := Lib.hid hlen
    have hnil := fun (w : World) => Lib.run_eql_slice_nil (P := Tryd.prog) w 23 29 (some a) n c 0 0 Tryd.underlying23
    clear h hnews hcl hlen
    go_enter Tryd.func23, Tryd.ntmps23
    go_wp2_with (at_builtin; refine wpList_append_own _ rfl (.tmp 5) (.tmp 6) 23 rfl w.heap.size 29 i0 _ 5 40 Tryd.underlying23 hi0 hz0 hz1 hz2 rfl (by decide) (.slice (some ⟨w.heap.size, 0, none⟩) 0 0) 0 [] rfl (by exact Own.empty w) a n c (zs.flatMap Tk.cells) rfl HC.out HN.out (cells_one _) (by unfold maxLen; omega) (by omega) (by simp) ?_; intro v2 w2 hown2 hgrow2 hiff2)
    have HO2 : Hid (Own w2 w.heap.size v2 zs) := Lib.hid (by
      have hh := hown2
      rw [Nat.zero_add, List.nil_append, ← HL.out] at hh
      exact hh)
    have HB2 := Lib.hid ((bl_alloc (Below.refl w.heap.size w) (.cells #[] 29)).grown hgrow2 (by simp) (fun k e => by have e2 : some w.heap.size = some k := e; injection e2 with e2; omega))
    clear hown2 hgrow2 hiff2
    obtain ⟨A2, c2, rfl⟩ := HO2.out.form
    go_wp2
    go_ret
    exact ⟨A2, c2, rfl, HO2.out, HB2.out⟩

end Go.Proofs.YtgfnlfjaekkdfaaDoor
