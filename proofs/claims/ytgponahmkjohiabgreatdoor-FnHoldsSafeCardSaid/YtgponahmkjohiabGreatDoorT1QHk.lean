import Derived.Test.YtgponahmkjohiabGreatDoorT1QHp
namespace Go.Proofs.YtgponahmkjohiabGreatDoor
open Go.RowKit
set_option linter.unusedVariables false
/-- The place f holds the least of the place k and of those below it that are before b. -/
def Best (hs : List Jb) (k f b : Nat) : Prop := ∀ x, hs[k]? = some x → ∃ m, hs[f]? = some m ∧ leJ m x ∧ ∀ c y, 2 * k + 1 ≤ c → c < b → hs[c]? = some y → leJ m y
theorem best_start (hs : List Jb) (k : Nat) : Best hs k k (2 * k + 1) := fun x hx => ⟨x, hx, leJ_refl _, fun c y h1 h2 _ => by omega⟩
theorem best_no {hs : List Jb} {k f b : Nat} {m y : Jb} (h : Best hs k f b) (hm : hs[f]? = some m) (hy : hs[b]? = some y) (hb : befB y m = false) : Best hs k f (b + 1) := fun x hx => by
  obtain ⟨m', hm', h1, h2⟩ := h x hx
  rw [hm] at hm'
  injection hm' with hm'
  subst hm'
  refine ⟨m, hm, h1, fun c z hc hcb hz => ?_⟩
  by_cases e : c = b
  · subst e
    rw [hy] at hz
    injection hz with hz
    subst hz
    exact hb
  · exact h2 c z hc (by omega) hz
theorem best_yes {hs : List Jb} {k f b : Nat} {m y : Jb} (h : Best hs k f b) (hm : hs[f]? = some m) (hy : hs[b]? = some y) (hb : befB y m = true) : Best hs k b (b + 1) := fun x hx => by
  obtain ⟨m', hm', h1, h2⟩ := h x hx
  rw [hm] at hm'
  injection hm' with hm'
  subst hm'
  refine ⟨y, hy, leJ_trans (leJ_of_bef hb) h1, fun c z hc hcb hz => ?_⟩
  by_cases e : c = b
  · subst e
    rw [hy] at hz
    injection hz with hz
    subst hz
    exact leJ_refl _
  · exact leJ_trans (leJ_of_bef hb) (h2 c z hc (by omega) hz)
/-- All below the place k were looked at. -/
def Cover (hs : List Jb) (k b : Nat) : Prop := ∀ c, 2 * k + 1 ≤ c → c ≤ 2 * k + 2 → c < b ∨ hs[c]? = none
theorem best_done {hs : List Jb} {k b : Nat} (hd : DownInv hs k) (h : Best hs k k b) (hc : Cover hs k b) : heapP hs := by
  rcases hx : hs[k]? with _ | x
  · intro i y p hi hy hp
    by_cases e : (i - 1) / 2 = k
    · rw [e, hx] at hp; cases hp
    · exact hd.1 i y p hi e hy hp
  · obtain ⟨m, hm, h1, h2⟩ := h x hx
    rw [hx] at hm
    injection hm with hm
    subst hm
    refine down_done hd hx (fun y hy => ?_) (fun y hy => ?_)
    · rcases hc (2 * k + 1) (by omega) (by omega) with e | e
      · exact h2 _ y (by omega) e hy
      · rw [e] at hy; cases hy
    · rcases hc (2 * k + 2) (by omega) (by omega) with e | e
      · exact h2 _ y (by omega) e hy
      · rw [e] at hy; cases hy
theorem best_step {hs : List Jb} {k f b : Nat} {x m : Jb} (hd : DownInv hs k) (h : Best hs k f b) (hc : Cover hs k b) (hx : hs[k]? = some x) (hm : hs[f]? = some m) (hf : f = 2 * k + 1 ∨ f = 2 * k + 2) : DownInv (swapL hs k f x m) f := by
  obtain ⟨m', hm', h1, h2⟩ := h x hx
  rw [hm] at hm'
  injection hm' with hm'
  subst hm'
  refine down_step hd hx hf hm h1 (fun y hy => ?_) (fun y hy => ?_)
  · rcases hc (2 * k + 1) (by omega) (by omega) with e | e
    · exact h2 _ y (by omega) e hy
    · rw [e] at hy; cases hy
  · rcases hc (2 * k + 2) (by omega) (by omega) with e | e
    · exact h2 _ y (by omega) e hy
    · rw [e] at hy; cases hy
/-- A heap whose first element was put down. -/
def SinkRes (B hb og : Nat) (hs : List Jb) (g cap : Nat) (w : World) (e : Ending) (w' : World) : Prop :=
  e = .returned (.tuple #[]) ∧ ∃ hs' : List Jb, Hp w' B hb og hs' (.slice (some ⟨g, 0, none⟩) hs'.length cap) ∧ hs'.length = hs.length ∧ heapP hs' ∧ hs'.Perm hs ∧ Gr2 w w' hb (some g)
set_option maxRecDepth 100000 in
set_option maxHeartbeats 8000000 in
theorem iSink_is (w : World) (B hb og : Nat) (hs : List Jb) (g cap : Nat) (h : Hp w B hb og hs (.slice (some ⟨g, 0, none⟩) hs.length cap)) (hd : DownInv hs 0) (hl : hs.length ≤ 60) :
    Calls Tryz.prog 107 #[.pointer (some ⟨hb, 0, none⟩)] w (SinkRes B hb og hs g cap w) := by
  have HH := Lib.hid h
  have HD := Lib.hid hd
  clear h hd
  go_enter Tryz.func107, Tryz.ntmps107
  go_wp2
  go_loopw [2] (fun i wr => ∃ (k : Nat) (hs1 : List Jb), i = .int .i64 k ∧ Hid (hs1.length = hs.length) ∧ (k < hs.length ∨ k = 0) ∧ Hid (Hp wr B hb og hs1 (.slice (some ⟨g, 0, none⟩) hs.length cap)) ∧ Hid (DownInv hs1 k) ∧ Hid (hs1.Perm hs) ∧ Hid (Gr2 w wr hb (some g))) (fun i _ => hs.length - (intOf i).toNat)
  case atStart => exact ⟨0, hs, rfl, Lib.hid rfl, .inr rfl, HH, HD, Lib.hid (List.Perm.refl _), Lib.hid (Gr2.of_below (Below.refl _ _))⟩
  case round =>
    obtain ⟨k, hs1, rfl, HL1, hkk, HH1, HD, HP, HG1⟩ := hrel
    obtain ⟨w4, hw4⟩ : ∃ W, W = wr := ⟨_, rfl⟩
    subst hw4
    clear HH
    have HBS := Lib.hid (best_start hs1 k)
    go_wp2
    go_loopw [3, 4] (fun i j wr => ∃ (f b : Nat), i = .int .i64 f ∧ j = .int .i64 b ∧ 2 * k + 1 ≤ b ∧ b ≤ 2 * k + 3 ∧ (f = k ∨ (2 * k + 1 ≤ f ∧ f < b ∧ f < hs.length)) ∧ Hid (Best hs1 k f b) ∧ Hid (Hp wr B hb og hs1 (.slice (some ⟨g, 0, none⟩) hs.length cap)) ∧ Hid (Gr2 w wr hb (some g))) (fun _ j _ => 2 * k + 4 - (intOf j).toNat)
    case atStart => exact ⟨k, 2 * k + 1, rfl, by go_num, Nat.le_refl _, by omega, .inl rfl, HBS, HH1, HG1⟩
    case round =>
      obtain ⟨f, b, rfl, rfl, hb1, hb2, hff, HBE, HH, HG⟩ := hrel
      obtain ⟨w4, hw4⟩ : ∃ W, W = wr := ⟨_, rfl⟩
      subst hw4
      clear HH1 HG1 HBS
      have c0 := HH.out.blk.cell 0
      have hbl : hb < w4.heap.size := HH.out.blk.lt
      have hgl : g < w4.heap.size := (World.ownsRow.lt HH.out.own g rfl).2
      by_cases hc1 : b ≤ 2 * k + 2
      · have hc1' : (b : Int) ≤ 2 * (k : Int) + 2 := by omega
        by_cases hc2 : b < hs.length
        · have c1 := HH.out.blk.cell 1
          have hbn' : (b : Int) < (hs.length : Int) := by omega
          have b0 : (0 : Int) ≤ (b : Int) := by omega
          have hkn : k < hs.length := by omega
          have hfn : f < hs.length := by omega
          have f0 : (0 : Int) ≤ (f : Int) := by omega
          have fn : (f : Int) < (hs.length : Int) := by omega
          obtain ⟨y, hy⟩ : ∃ y, hs1[b]? = some y := ⟨hs1[b]'(by have := HL1.out; omega), List.getElem?_eq_getElem _⟩
          obtain ⟨m, hm⟩ : ∃ m, hs1[f]? = some m := ⟨hs1[f]'(by have := HL1.out; omega), List.getElem?_eq_getElem _⟩
          obtain ⟨_, a0, a1, a2⟩ := HH.out.own.reads.2.get hy
          obtain ⟨_, d0, d1, d2⟩ := HH.out.own.reads.2.get hm
          have c2 := a0
          have c3 := a1
          have c4 := a2
          have c5 := d0
          have c6 := d1
          have c7 := d2
          simp only [Nat.zero_add] at c2 c3 c4 c5 c6 c7
          have HY := Lib.hid hy
          have HM := Lib.hid hm
          clear a0 a1 a2 d0 d1 d2 hy hm
          obtain ⟨ya, ym, ye⟩ := y
          obtain ⟨ma, mm, me⟩ := m
          dsimp only at c2 c3 c4 c5 c6 c7
          cases hbf : befB ⟨ya, ym, ye⟩ ⟨ma, mm, me⟩
          · have HBF := Lib.hid hbf
            clear hbf
            go_wp2_with fail
            refine wp_region_held_drew (S := (fun W => W.cell? ⟨hb, 0, none⟩ = some (.slice (some ⟨g, 0, none⟩) hs.length cap) ∧ W.cell? ⟨hb, 1, none⟩ = some (.func (.func 55) #[ordV og] #[]) ∧ W.cell? ⟨g, b * 3, none⟩ = some (.int .i64 ya) ∧ W.cell? ⟨g, b * 3 + 1, none⟩ = some (.int .i64 ym) ∧ W.cell? ⟨g, b * 3 + 2, none⟩ = some (.int .i64 ye) ∧ W.cell? ⟨g, f * 3, none⟩ = some (.int .i64 ma) ∧ W.cell? ⟨g, f * 3 + 1, none⟩ = some (.int .i64 mm) ∧ W.cell? ⟨g, f * 3 + 2, none⟩ = some (.int .i64 me))) (by kernel_rfl) (by exact ⟨c0, c1, c2, c3, c4, c5, c6, c7⟩) (fun hHeld0 => ?_)
            refine wpAnyH_take (i := 0) (oi := { dst := some 25, op := .move (.tmp 0), type := 138, pos := "l6_jobs.go:172", after := #[], guard := none }) (v := ?_) rfl (by kernel_rfl) (by kernel_rfl) (by kernel_rfl) (fun _ _ _ h => h) (Or.inl ⟨by rfl, ?_⟩) hHeld0 ?_
            rotate_left
            · first | (intro w hSw; (try dsimp only at hSw); go_simp; done) | (intro w hSw; (try dsimp only at hSw); go_simp; with_reducible rfl)
            (try simp only [Act.put, List.setIfInBounds_toArray, List.set_cons_zero, List.set_cons_succ])
            refine wpAnyH_take (i := 1) (oi := { dst := some 26, op := .nilCheck (.tmp 25), type := 0, pos := "l6_jobs.go:172", after := #[⟨0, .data⟩], guard := none }) (v := ?_) rfl (by kernel_rfl) (by kernel_rfl) (by kernel_rfl) (fun _ _ _ h => h) (Or.inl ⟨by rfl, ?_⟩) hHeld0 ?_
            rotate_left
            · first | (intro w hSw; (try dsimp only at hSw); go_simp; done) | (intro w hSw; (try dsimp only at hSw); go_simp; with_reducible rfl)
            (try simp only [Act.put, List.setIfInBounds_toArray, List.set_cons_zero, List.set_cons_succ])
            refine wpAnyH_take (i := 2) (oi := { dst := some 27, op := .fieldAddr 98 (.tmp 26) 1, type := 0, pos := "l6_jobs.go:172", after := #[⟨1, .data⟩], guard := none }) (v := ?_) rfl (by kernel_rfl) (by kernel_rfl) (by kernel_rfl) (fun _ _ _ h => h) (Or.inl ⟨by rfl, ?_⟩) hHeld0 ?_
            rotate_left
            · first | (intro w hSw; (try dsimp only at hSw); go_simp; done) | (intro w hSw; (try dsimp only at hSw); go_simp; with_reducible rfl)
            (try simp only [Act.put, List.setIfInBounds_toArray, List.set_cons_zero, List.set_cons_succ])
            refine wpAnyH_take (i := 3) (oi := { dst := some 28, op := .load 95 (.tmp 27), type := 95, pos := "l6_jobs.go:172", after := #[⟨2, .data⟩], guard := none }) (v := ?_) rfl (by kernel_rfl) (by kernel_rfl) (by kernel_rfl) (fun _ _ _ h => h) (Or.inl ⟨by rfl, ?_⟩) hHeld0 ?_
            rotate_left
            · first | (intro w hSw; (try dsimp only at hSw); go_simp; done) | (intro w hSw; (try dsimp only at hSw); go_simp; with_reducible rfl)
            (try simp only [Act.put, List.setIfInBounds_toArray, List.set_cons_zero, List.set_cons_succ])
            refine wpAnyH_take (i := 4) (oi := { dst := some 29, op := .move (.tmp 0), type := 138, pos := "l6_jobs.go:172", after := #[], guard := none }) (v := ?_) rfl (by kernel_rfl) (by kernel_rfl) (by kernel_rfl) (fun _ _ _ h => h) (Or.inl ⟨by rfl, ?_⟩) hHeld0 ?_
            rotate_left
            · first | (intro w hSw; (try dsimp only at hSw); go_simp; done) | (intro w hSw; (try dsimp only at hSw); go_simp; with_reducible rfl)
            (try simp only [Act.put, List.setIfInBounds_toArray, List.set_cons_zero, List.set_cons_succ])
            refine wpAnyH_take (i := 5) (oi := { dst := some 30, op := .nilCheck (.tmp 29), type := 0, pos := "l6_jobs.go:172", after := #[⟨4, .data⟩], guard := none }) (v := ?_) rfl (by kernel_rfl) (by kernel_rfl) (by kernel_rfl) (fun _ _ _ h => h) (Or.inl ⟨by rfl, ?_⟩) hHeld0 ?_
            rotate_left
            · first | (intro w hSw; (try dsimp only at hSw); go_simp; done) | (intro w hSw; (try dsimp only at hSw); go_simp; with_reducible rfl)
            (try simp only [Act.put, List.setIfInBounds_toArray, List.set_cons_zero, List.set_cons_succ])
            refine wpAnyH_take (i := 6) (oi := { dst := some 31, op := .fieldAddr 98 (.tmp 30) 0, type := 0, pos := "l6_jobs.go:172", after := #[⟨5, .data⟩], guard := none }) (v := ?_) rfl (by kernel_rfl) (by kernel_rfl) (by kernel_rfl) (fun _ _ _ h => h) (Or.inl ⟨by rfl, ?_⟩) hHeld0 ?_
            rotate_left
            · first | (intro w hSw; (try dsimp only at hSw); go_simp; done) | (intro w hSw; (try dsimp only at hSw); go_simp; with_reducible rfl)
            (try simp only [Act.put, List.setIfInBounds_toArray, List.set_cons_zero, List.set_cons_succ])
            refine wpAnyH_take (i := 7) (oi := { dst := some 32, op := .load 24 (.tmp 31), type := 24, pos := "l6_jobs.go:172", after := #[⟨6, .data⟩], guard := none }) (v := ?_) rfl (by kernel_rfl) (by kernel_rfl) (by kernel_rfl) (fun _ _ _ h => h) (Or.inl ⟨by rfl, ?_⟩) hHeld0 ?_
            rotate_left
            · first | (intro w hSw; (try dsimp only at hSw); go_simp; done) | (intro w hSw; (try dsimp only at hSw); go_simp; with_reducible rfl)
            (try simp only [Act.put, List.setIfInBounds_toArray, List.set_cons_zero, List.set_cons_succ])
            refine wpAnyH_take (i := 8) (oi := { dst := some 33, op := .move (.tmp 4), type := 3, pos := "l6_jobs.go:172", after := #[], guard := none }) (v := ?_) rfl (by kernel_rfl) (by kernel_rfl) (by kernel_rfl) (fun _ _ _ h => h) (Or.inl ⟨by rfl, ?_⟩) hHeld0 ?_
            rotate_left
            · first | (intro w hSw; (try dsimp only at hSw); go_simp; done) | (intro w hSw; (try dsimp only at hSw); go_simp; with_reducible rfl)
            (try simp only [Act.put, List.setIfInBounds_toArray, List.set_cons_zero, List.set_cons_succ])
            refine wpAnyH_take (i := 9) (oi := { dst := some 34, op := .indexAddr 24 (.tmp 32) (.tmp 33), type := 0, pos := "l6_jobs.go:172", after := #[⟨7, .data⟩, ⟨8, .data⟩], guard := none }) (v := ?_) rfl (by kernel_rfl) (by kernel_rfl) (by kernel_rfl) (fun _ _ _ h => h) (Or.inl ⟨by rfl, ?_⟩) hHeld0 ?_
            rotate_left
            · first | (intro w hSw; (try dsimp only at hSw); go_simp; done) | (intro w hSw; (try dsimp only at hSw); go_simp; with_reducible rfl)
            (try simp only [Act.put, List.setIfInBounds_toArray, List.set_cons_zero, List.set_cons_succ])
            refine wpAnyH_take (i := 10) (oi := { dst := some 35, op := .load 46 (.tmp 34), type := 46, pos := "l6_jobs.go:172", after := #[⟨9, .data⟩], guard := none }) (v := ?_) rfl (by kernel_rfl) (by kernel_rfl) (by kernel_rfl) (fun _ _ _ h => h) (Or.inl ⟨by rfl, ?_⟩) hHeld0 ?_
            rotate_left
            · first | (intro w hSw; (try dsimp only at hSw); go_simp; done) | (intro w hSw; (try dsimp only at hSw); go_simp; with_reducible rfl)
            (try simp only [Act.put, List.setIfInBounds_toArray, List.set_cons_zero, List.set_cons_succ])
            refine wpAnyH_take (i := 11) (oi := { dst := some 36, op := .move (.tmp 0), type := 138, pos := "l6_jobs.go:172", after := #[], guard := none }) (v := ?_) rfl (by kernel_rfl) (by kernel_rfl) (by kernel_rfl) (fun _ _ _ h => h) (Or.inl ⟨by rfl, ?_⟩) hHeld0 ?_
            rotate_left
            · first | (intro w hSw; (try dsimp only at hSw); go_simp; done) | (intro w hSw; (try dsimp only at hSw); go_simp; with_reducible rfl)
            (try simp only [Act.put, List.setIfInBounds_toArray, List.set_cons_zero, List.set_cons_succ])
            refine wpAnyH_take (i := 12) (oi := { dst := some 37, op := .nilCheck (.tmp 36), type := 0, pos := "l6_jobs.go:172", after := #[⟨11, .data⟩], guard := none }) (v := ?_) rfl (by kernel_rfl) (by kernel_rfl) (by kernel_rfl) (fun _ _ _ h => h) (Or.inl ⟨by rfl, ?_⟩) hHeld0 ?_
            rotate_left
            · first | (intro w hSw; (try dsimp only at hSw); go_simp; done) | (intro w hSw; (try dsimp only at hSw); go_simp; with_reducible rfl)
            (try simp only [Act.put, List.setIfInBounds_toArray, List.set_cons_zero, List.set_cons_succ])
            refine wpAnyH_take (i := 13) (oi := { dst := some 38, op := .fieldAddr 98 (.tmp 37) 0, type := 0, pos := "l6_jobs.go:172", after := #[⟨12, .data⟩], guard := none }) (v := ?_) rfl (by kernel_rfl) (by kernel_rfl) (by kernel_rfl) (fun _ _ _ h => h) (Or.inl ⟨by rfl, ?_⟩) hHeld0 ?_
            rotate_left
            · first | (intro w hSw; (try dsimp only at hSw); go_simp; done) | (intro w hSw; (try dsimp only at hSw); go_simp; with_reducible rfl)
            (try simp only [Act.put, List.setIfInBounds_toArray, List.set_cons_zero, List.set_cons_succ])
            refine wpAnyH_take (i := 14) (oi := { dst := some 39, op := .load 24 (.tmp 38), type := 24, pos := "l6_jobs.go:172", after := #[⟨13, .data⟩], guard := none }) (v := ?_) rfl (by kernel_rfl) (by kernel_rfl) (by kernel_rfl) (fun _ _ _ h => h) (Or.inl ⟨by rfl, ?_⟩) hHeld0 ?_
            rotate_left
            · first | (intro w hSw; (try dsimp only at hSw); go_simp; done) | (intro w hSw; (try dsimp only at hSw); go_simp; with_reducible rfl)
            (try simp only [Act.put, List.setIfInBounds_toArray, List.set_cons_zero, List.set_cons_succ])
            refine wpAnyH_take (i := 15) (oi := { dst := some 40, op := .move (.tmp 3), type := 3, pos := "l6_jobs.go:172", after := #[], guard := none }) (v := ?_) rfl (by kernel_rfl) (by kernel_rfl) (by kernel_rfl) (fun _ _ _ h => h) (Or.inl ⟨by rfl, ?_⟩) hHeld0 ?_
            rotate_left
            · first | (intro w hSw; (try dsimp only at hSw); go_simp; done) | (intro w hSw; (try dsimp only at hSw); go_simp; with_reducible rfl)
            (try simp only [Act.put, List.setIfInBounds_toArray, List.set_cons_zero, List.set_cons_succ])
            refine wpAnyH_take (i := 16) (oi := { dst := some 41, op := .indexAddr 24 (.tmp 39) (.tmp 40), type := 0, pos := "l6_jobs.go:172", after := #[⟨14, .data⟩, ⟨15, .data⟩], guard := none }) (v := ?_) rfl (by kernel_rfl) (by kernel_rfl) (by kernel_rfl) (fun _ _ _ h => h) (Or.inl ⟨by rfl, ?_⟩) hHeld0 ?_
            rotate_left
            · first | (intro w hSw; (try dsimp only at hSw); go_simp; done) | (intro w hSw; (try dsimp only at hSw); go_simp; with_reducible rfl)
            (try simp only [Act.put, List.setIfInBounds_toArray, List.set_cons_zero, List.set_cons_succ])
            refine wpAnyH_take (i := 17) (oi := { dst := some 42, op := .load 46 (.tmp 41), type := 46, pos := "l6_jobs.go:172", after := #[⟨16, .data⟩], guard := none }) (v := ?_) rfl (by kernel_rfl) (by kernel_rfl) (by kernel_rfl) (fun _ _ _ h => h) (Or.inl ⟨by rfl, ?_⟩) hHeld0 ?_
            rotate_left
            · first | (intro w hSw; (try dsimp only at hSw); go_simp; done) | (intro w hSw; (try dsimp only at hSw); go_simp; with_reducible rfl)
            (try simp only [Act.put, List.setIfInBounds_toArray, List.set_cons_zero, List.set_cons_succ])
            refine wpAnyH_ready (rs := [18]) (by kernel_rfl) (by simp) ?_
            refine AllReadyH.cons (o := { dst := some 43, op := .call { callee := .value (.tmp 28), args := #[.tmp 35, .tmp 42], argTypes := #[46, 46] }, type := 4, pos := "l6_jobs.go:172", after := #[⟨3, .data⟩, ⟨10, .data⟩, ⟨17, .data⟩], guard := none }) rfl (fun K hK => ?_) AllReadyH.nil
            go_simp
            (go_at_call 55; refine (iBef_is _ og (by repeat (first | with_reducible exact HH.out.ord | with_reducible refine OrdAt.drewN ?_ _ | with_reducible refine OrdAt.drew ?_)) ⟨ya, ym, ye⟩ ⟨ma, mm, me⟩ false HBF.out).mono ?_; rintro e w6 ⟨rfl, hb6⟩; have HB6 := Lib.hid (show Below w4.heap.size w4 w6 from bl_trans (by repeat (first | with_reducible exact Below.refl _ _ | with_reducible refine bl_drewN ?_ _ | with_reducible refine Below.drew ?_)) hb6); clear hb6)
            (try go_wp2_with fail)
            refine hK.out _ _ (by exact ⟨(HB6.out.cell (p := ⟨hb, 0, none⟩) hbl).trans c0, (HB6.out.cell (p := ⟨hb, 1, none⟩) hbl).trans c1, (HB6.out.cell (p := ⟨g, b * 3, none⟩) hgl).trans c2, (HB6.out.cell (p := ⟨g, b * 3 + 1, none⟩) hgl).trans c3, (HB6.out.cell (p := ⟨g, b * 3 + 2, none⟩) hgl).trans c4, (HB6.out.cell (p := ⟨g, f * 3, none⟩) hgl).trans c5, (HB6.out.cell (p := ⟨g, f * 3 + 1, none⟩) hgl).trans c6, (HB6.out.cell (p := ⟨g, f * 3 + 2, none⟩) hgl).trans c7⟩) (fun hHeld1 => ?_)
            clear hK K
            (try simp only [Act.put, List.setIfInBounds_toArray, List.set_cons_zero, List.set_cons_succ])
            refine wpAnyH_done (by kernel_rfl) ?_ _
            have HN := Lib.hid (best_no HBE.out HM.out HY.out HBF.out)
            have HH6 := Lib.hid (Hp.below HH.out (by repeat (first | with_reducible exact HB6.out | with_reducible refine bl_drewN ?_ _ | with_reducible refine Below.drew ?_)))
            have HG6 : Hid (Gr2 w _ hb (some g)) := Lib.hid (Gr2.trans HG.out (Gr2.of_below (row := none) (by repeat (first | with_reducible exact HB6.out | with_reducible refine bl_drewN ?_ _ | with_reducible refine Below.drew ?_))) (fun x e => by cases e))
            clear c0 c1 c2 c3 c4 c5 c6 c7
            go_wp2
            go_roundw
            case rel => exact ⟨f, b + 1, rfl, by go_num, by omega, by omega, by omega, HN, HH6, HG6⟩
            case measure => simp [intOf]; omega
          · have HBF := Lib.hid hbf
            clear hbf
            go_wp2_with fail
            refine wp_region_held_drew (S := (fun W => W.cell? ⟨hb, 0, none⟩ = some (.slice (some ⟨g, 0, none⟩) hs.length cap) ∧ W.cell? ⟨hb, 1, none⟩ = some (.func (.func 55) #[ordV og] #[]) ∧ W.cell? ⟨g, b * 3, none⟩ = some (.int .i64 ya) ∧ W.cell? ⟨g, b * 3 + 1, none⟩ = some (.int .i64 ym) ∧ W.cell? ⟨g, b * 3 + 2, none⟩ = some (.int .i64 ye) ∧ W.cell? ⟨g, f * 3, none⟩ = some (.int .i64 ma) ∧ W.cell? ⟨g, f * 3 + 1, none⟩ = some (.int .i64 mm) ∧ W.cell? ⟨g, f * 3 + 2, none⟩ = some (.int .i64 me))) (by kernel_rfl) (by exact ⟨c0, c1, c2, c3, c4, c5, c6, c7⟩) (fun hHeld0 => ?_)
            refine wpAnyH_take (i := 0) (oi := { dst := some 25, op := .move (.tmp 0), type := 138, pos := "l6_jobs.go:172", after := #[], guard := none }) (v := ?_) rfl (by kernel_rfl) (by kernel_rfl) (by kernel_rfl) (fun _ _ _ h => h) (Or.inl ⟨by rfl, ?_⟩) hHeld0 ?_
            rotate_left
            · first | (intro w hSw; (try dsimp only at hSw); go_simp; done) | (intro w hSw; (try dsimp only at hSw); go_simp; with_reducible rfl)
            (try simp only [Act.put, List.setIfInBounds_toArray, List.set_cons_zero, List.set_cons_succ])
            refine wpAnyH_take (i := 1) (oi := { dst := some 26, op := .nilCheck (.tmp 25), type := 0, pos := "l6_jobs.go:172", after := #[⟨0, .data⟩], guard := none }) (v := ?_) rfl (by kernel_rfl) (by kernel_rfl) (by kernel_rfl) (fun _ _ _ h => h) (Or.inl ⟨by rfl, ?_⟩) hHeld0 ?_
            rotate_left
            · first | (intro w hSw; (try dsimp only at hSw); go_simp; done) | (intro w hSw; (try dsimp only at hSw); go_simp; with_reducible rfl)
            (try simp only [Act.put, List.setIfInBounds_toArray, List.set_cons_zero, List.set_cons_succ])
            refine wpAnyH_take (i := 2) (oi := { dst := some 27, op := .fieldAddr 98 (.tmp 26) 1, type := 0, pos := "l6_jobs.go:172", after := #[⟨1, .data⟩], guard := none }) (v := ?_) rfl (by kernel_rfl) (by kernel_rfl) (by kernel_rfl) (fun _ _ _ h => h) (Or.inl ⟨by rfl, ?_⟩) hHeld0 ?_
            rotate_left
            · first | (intro w hSw; (try dsimp only at hSw); go_simp; done) | (intro w hSw; (try dsimp only at hSw); go_simp; with_reducible rfl)
            (try simp only [Act.put, List.setIfInBounds_toArray, List.set_cons_zero, List.set_cons_succ])
            refine wpAnyH_take (i := 3) (oi := { dst := some 28, op := .load 95 (.tmp 27), type := 95, pos := "l6_jobs.go:172", after := #[⟨2, .data⟩], guard := none }) (v := ?_) rfl (by kernel_rfl) (by kernel_rfl) (by kernel_rfl) (fun _ _ _ h => h) (Or.inl ⟨by rfl, ?_⟩) hHeld0 ?_
            rotate_left
            · first | (intro w hSw; (try dsimp only at hSw); go_simp; done) | (intro w hSw; (try dsimp only at hSw); go_simp; with_reducible rfl)
            (try simp only [Act.put, List.setIfInBounds_toArray, List.set_cons_zero, List.set_cons_succ])
            refine wpAnyH_take (i := 4) (oi := { dst := some 29, op := .move (.tmp 0), type := 138, pos := "l6_jobs.go:172", after := #[], guard := none }) (v := ?_) rfl (by kernel_rfl) (by kernel_rfl) (by kernel_rfl) (fun _ _ _ h => h) (Or.inl ⟨by rfl, ?_⟩) hHeld0 ?_
            rotate_left
            · first | (intro w hSw; (try dsimp only at hSw); go_simp; done) | (intro w hSw; (try dsimp only at hSw); go_simp; with_reducible rfl)
            (try simp only [Act.put, List.setIfInBounds_toArray, List.set_cons_zero, List.set_cons_succ])
            refine wpAnyH_take (i := 5) (oi := { dst := some 30, op := .nilCheck (.tmp 29), type := 0, pos := "l6_jobs.go:172", after := #[⟨4, .data⟩], guard := none }) (v := ?_) rfl (by kernel_rfl) (by kernel_rfl) (by kernel_rfl) (fun _ _ _ h => h) (Or.inl ⟨by rfl, ?_⟩) hHeld0 ?_
            rotate_left
            · first | (intro w hSw; (try dsimp only at hSw); go_simp; done) | (intro w hSw; (try dsimp only at hSw); go_simp; with_reducible rfl)
            (try simp only [Act.put, List.setIfInBounds_toArray, List.set_cons_zero, List.set_cons_succ])
            refine wpAnyH_take (i := 6) (oi := { dst := some 31, op := .fieldAddr 98 (.tmp 30) 0, type := 0, pos := "l6_jobs.go:172", after := #[⟨5, .data⟩], guard := none }) (v := ?_) rfl (by kernel_rfl) (by kernel_rfl) (by kernel_rfl) (fun _ _ _ h => h) (Or.inl ⟨by rfl, ?_⟩) hHeld0 ?_
            rotate_left
            · first | (intro w hSw; (try dsimp only at hSw); go_simp; done) | (intro w hSw; (try dsimp only at hSw); go_simp; with_reducible rfl)
            (try simp only [Act.put, List.setIfInBounds_toArray, List.set_cons_zero, List.set_cons_succ])
            refine wpAnyH_take (i := 7) (oi := { dst := some 32, op := .load 24 (.tmp 31), type := 24, pos := "l6_jobs.go:172", after := #[⟨6, .data⟩], guard := none }) (v := ?_) rfl (by kernel_rfl) (by kernel_rfl) (by kernel_rfl) (fun _ _ _ h => h) (Or.inl ⟨by rfl, ?_⟩) hHeld0 ?_
            rotate_left
            · first | (intro w hSw; (try dsimp only at hSw); go_simp; done) | (intro w hSw; (try dsimp only at hSw); go_simp; with_reducible rfl)
            (try simp only [Act.put, List.setIfInBounds_toArray, List.set_cons_zero, List.set_cons_succ])
            refine wpAnyH_take (i := 8) (oi := { dst := some 33, op := .move (.tmp 4), type := 3, pos := "l6_jobs.go:172", after := #[], guard := none }) (v := ?_) rfl (by kernel_rfl) (by kernel_rfl) (by kernel_rfl) (fun _ _ _ h => h) (Or.inl ⟨by rfl, ?_⟩) hHeld0 ?_
            rotate_left
            · first | (intro w hSw; (try dsimp only at hSw); go_simp; done) | (intro w hSw; (try dsimp only at hSw); go_simp; with_reducible rfl)
            (try simp only [Act.put, List.setIfInBounds_toArray, List.set_cons_zero, List.set_cons_succ])
            refine wpAnyH_take (i := 9) (oi := { dst := some 34, op := .indexAddr 24 (.tmp 32) (.tmp 33), type := 0, pos := "l6_jobs.go:172", after := #[⟨7, .data⟩, ⟨8, .data⟩], guard := none }) (v := ?_) rfl (by kernel_rfl) (by kernel_rfl) (by kernel_rfl) (fun _ _ _ h => h) (Or.inl ⟨by rfl, ?_⟩) hHeld0 ?_
            rotate_left
            · first | (intro w hSw; (try dsimp only at hSw); go_simp; done) | (intro w hSw; (try dsimp only at hSw); go_simp; with_reducible rfl)
            (try simp only [Act.put, List.setIfInBounds_toArray, List.set_cons_zero, List.set_cons_succ])
            refine wpAnyH_take (i := 10) (oi := { dst := some 35, op := .load 46 (.tmp 34), type := 46, pos := "l6_jobs.go:172", after := #[⟨9, .data⟩], guard := none }) (v := ?_) rfl (by kernel_rfl) (by kernel_rfl) (by kernel_rfl) (fun _ _ _ h => h) (Or.inl ⟨by rfl, ?_⟩) hHeld0 ?_
            rotate_left
            · first | (intro w hSw; (try dsimp only at hSw); go_simp; done) | (intro w hSw; (try dsimp only at hSw); go_simp; with_reducible rfl)
            (try simp only [Act.put, List.setIfInBounds_toArray, List.set_cons_zero, List.set_cons_succ])
            refine wpAnyH_take (i := 11) (oi := { dst := some 36, op := .move (.tmp 0), type := 138, pos := "l6_jobs.go:172", after := #[], guard := none }) (v := ?_) rfl (by kernel_rfl) (by kernel_rfl) (by kernel_rfl) (fun _ _ _ h => h) (Or.inl ⟨by rfl, ?_⟩) hHeld0 ?_
            rotate_left
            · first | (intro w hSw; (try dsimp only at hSw); go_simp; done) | (intro w hSw; (try dsimp only at hSw); go_simp; with_reducible rfl)
            (try simp only [Act.put, List.setIfInBounds_toArray, List.set_cons_zero, List.set_cons_succ])
            refine wpAnyH_take (i := 12) (oi := { dst := some 37, op := .nilCheck (.tmp 36), type := 0, pos := "l6_jobs.go:172", after := #[⟨11, .data⟩], guard := none }) (v := ?_) rfl (by kernel_rfl) (by kernel_rfl) (by kernel_rfl) (fun _ _ _ h => h) (Or.inl ⟨by rfl, ?_⟩) hHeld0 ?_
            rotate_left
            · first | (intro w hSw; (try dsimp only at hSw); go_simp; done) | (intro w hSw; (try dsimp only at hSw); go_simp; with_reducible rfl)
            (try simp only [Act.put, List.setIfInBounds_toArray, List.set_cons_zero, List.set_cons_succ])
            refine wpAnyH_take (i := 13) (oi := { dst := some 38, op := .fieldAddr 98 (.tmp 37) 0, type := 0, pos := "l6_jobs.go:172", after := #[⟨12, .data⟩], guard := none }) (v := ?_) rfl (by kernel_rfl) (by kernel_rfl) (by kernel_rfl) (fun _ _ _ h => h) (Or.inl ⟨by rfl, ?_⟩) hHeld0 ?_
            rotate_left
            · first | (intro w hSw; (try dsimp only at hSw); go_simp; done) | (intro w hSw; (try dsimp only at hSw); go_simp; with_reducible rfl)
            (try simp only [Act.put, List.setIfInBounds_toArray, List.set_cons_zero, List.set_cons_succ])
            refine wpAnyH_take (i := 14) (oi := { dst := some 39, op := .load 24 (.tmp 38), type := 24, pos := "l6_jobs.go:172", after := #[⟨13, .data⟩], guard := none }) (v := ?_) rfl (by kernel_rfl) (by kernel_rfl) (by kernel_rfl) (fun _ _ _ h => h) (Or.inl ⟨by rfl, ?_⟩) hHeld0 ?_
            rotate_left
            · first | (intro w hSw; (try dsimp only at hSw); go_simp; done) | (intro w hSw; (try dsimp only at hSw); go_simp; with_reducible rfl)
            (try simp only [Act.put, List.setIfInBounds_toArray, List.set_cons_zero, List.set_cons_succ])
            refine wpAnyH_take (i := 15) (oi := { dst := some 40, op := .move (.tmp 3), type := 3, pos := "l6_jobs.go:172", after := #[], guard := none }) (v := ?_) rfl (by kernel_rfl) (by kernel_rfl) (by kernel_rfl) (fun _ _ _ h => h) (Or.inl ⟨by rfl, ?_⟩) hHeld0 ?_
            rotate_left
            · first | (intro w hSw; (try dsimp only at hSw); go_simp; done) | (intro w hSw; (try dsimp only at hSw); go_simp; with_reducible rfl)
            (try simp only [Act.put, List.setIfInBounds_toArray, List.set_cons_zero, List.set_cons_succ])
            refine wpAnyH_take (i := 16) (oi := { dst := some 41, op := .indexAddr 24 (.tmp 39) (.tmp 40), type := 0, pos := "l6_jobs.go:172", after := #[⟨14, .data⟩, ⟨15, .data⟩], guard := none }) (v := ?_) rfl (by kernel_rfl) (by kernel_rfl) (by kernel_rfl) (fun _ _ _ h => h) (Or.inl ⟨by rfl, ?_⟩) hHeld0 ?_
            rotate_left
            · first | (intro w hSw; (try dsimp only at hSw); go_simp; done) | (intro w hSw; (try dsimp only at hSw); go_simp; with_reducible rfl)
            (try simp only [Act.put, List.setIfInBounds_toArray, List.set_cons_zero, List.set_cons_succ])
            refine wpAnyH_take (i := 17) (oi := { dst := some 42, op := .load 46 (.tmp 41), type := 46, pos := "l6_jobs.go:172", after := #[⟨16, .data⟩], guard := none }) (v := ?_) rfl (by kernel_rfl) (by kernel_rfl) (by kernel_rfl) (fun _ _ _ h => h) (Or.inl ⟨by rfl, ?_⟩) hHeld0 ?_
            rotate_left
            · first | (intro w hSw; (try dsimp only at hSw); go_simp; done) | (intro w hSw; (try dsimp only at hSw); go_simp; with_reducible rfl)
            (try simp only [Act.put, List.setIfInBounds_toArray, List.set_cons_zero, List.set_cons_succ])
            refine wpAnyH_ready (rs := [18]) (by kernel_rfl) (by simp) ?_
            refine AllReadyH.cons (o := { dst := some 43, op := .call { callee := .value (.tmp 28), args := #[.tmp 35, .tmp 42], argTypes := #[46, 46] }, type := 4, pos := "l6_jobs.go:172", after := #[⟨3, .data⟩, ⟨10, .data⟩, ⟨17, .data⟩], guard := none }) rfl (fun K hK => ?_) AllReadyH.nil
            go_simp
            (go_at_call 55; refine (iBef_is _ og (by repeat (first | with_reducible exact HH.out.ord | with_reducible refine OrdAt.drewN ?_ _ | with_reducible refine OrdAt.drew ?_)) ⟨ya, ym, ye⟩ ⟨ma, mm, me⟩ true HBF.out).mono ?_; rintro e w6 ⟨rfl, hb6⟩; have HB6 := Lib.hid (show Below w4.heap.size w4 w6 from bl_trans (by repeat (first | with_reducible exact Below.refl _ _ | with_reducible refine bl_drewN ?_ _ | with_reducible refine Below.drew ?_)) hb6); clear hb6)
            (try go_wp2_with fail)
            refine hK.out _ _ (by exact ⟨(HB6.out.cell (p := ⟨hb, 0, none⟩) hbl).trans c0, (HB6.out.cell (p := ⟨hb, 1, none⟩) hbl).trans c1, (HB6.out.cell (p := ⟨g, b * 3, none⟩) hgl).trans c2, (HB6.out.cell (p := ⟨g, b * 3 + 1, none⟩) hgl).trans c3, (HB6.out.cell (p := ⟨g, b * 3 + 2, none⟩) hgl).trans c4, (HB6.out.cell (p := ⟨g, f * 3, none⟩) hgl).trans c5, (HB6.out.cell (p := ⟨g, f * 3 + 1, none⟩) hgl).trans c6, (HB6.out.cell (p := ⟨g, f * 3 + 2, none⟩) hgl).trans c7⟩) (fun hHeld1 => ?_)
            clear hK K
            (try simp only [Act.put, List.setIfInBounds_toArray, List.set_cons_zero, List.set_cons_succ])
            refine wpAnyH_done (by kernel_rfl) ?_ _
            have HN := Lib.hid (best_yes HBE.out HM.out HY.out HBF.out)
            have HH6 := Lib.hid (Hp.below HH.out (by repeat (first | with_reducible exact HB6.out | with_reducible refine bl_drewN ?_ _ | with_reducible refine Below.drew ?_)))
            have HG6 : Hid (Gr2 w _ hb (some g)) := Lib.hid (Gr2.trans HG.out (Gr2.of_below (row := none) (by repeat (first | with_reducible exact HB6.out | with_reducible refine bl_drewN ?_ _ | with_reducible refine Below.drew ?_))) (fun x e => by cases e))
            clear c0 c1 c2 c3 c4 c5 c6 c7
            go_wp2
            go_roundw
            case rel => exact ⟨b, b + 1, rfl, by go_num, by omega, by omega, by omega, HN, HH6, HG6⟩
            case measure => simp [intOf]; omega
        · have hc2' : ¬ (b : Int) < (hs.length : Int) := by omega
          have HCV := Lib.hid (show Cover hs1 k b from fun c h1 h2 => by
            by_cases e : c < b
            · exact .inl e
            · exact .inr (List.getElem?_eq_none (by have := HL1.out; omega)))
          by_cases hfk : f = k
          · subst hfk
            have hee : ((f : Int) == (f : Int)) = true := by simp
            have HDN := Lib.hid (show heapP hs1 from best_done HD.out HBE.out HCV.out)
            go_wp2
            go_end0
            exact ⟨rfl, hs1, by rw [HL1.out]; exact HH.out, HL1.out, HDN.out, HP.out, HG.out⟩
          · have hfb : 2 * k + 1 ≤ f ∧ f < b ∧ f < hs.length := by omega
            have hkn : k < hs.length := by omega
            have hee : ((f : Int) == (k : Int)) = false := by simp; omega
            obtain ⟨x, hx⟩ : ∃ x, hs1[k]? = some x := ⟨hs1[k]'(by have := HL1.out; omega), List.getElem?_eq_getElem _⟩
            obtain ⟨m, hm, hmx, hmc⟩ := HBE.out x hx
            have HDS := Lib.hid (show DownInv (swapL hs1 k f x m) f from best_step HD.out HBE.out HCV.out hx hm (by omega))
            have HX := Lib.hid hx
            have HM := Lib.hid hm
            clear hx hm hmx hmc
            go_wp2_with fail
            refine (iSwap_is _ B hb og hs1 (.slice (some ⟨g, 0, none⟩) hs.length cap) HH.out k f x m HX.out HM.out).mono ?_
            rintro e w7 ⟨rfl, hh7, hg7⟩
            have HH7 := Lib.hid hh7
            have HG7 : Hid (Gr2 w w7 hb (some g)) := Lib.hid (Gr2.trans HG.out (Gr2.of_gb hg7) (fun x e => .inl e))
            have HPN := Lib.hid ((swap_perm HX.out HM.out).trans HP.out)
            have HLN := Lib.hid (show (swapL hs1 k f x m).length = hs.length by rw [swap_len, HL1.out])
            clear hh7 hg7
            go_wp2
            go_roundw
            case rel => exact ⟨f, _, rfl, HLN, by omega, HH7, HDS, HPN, HG7⟩
            case measure => simp [intOf]; omega
      · have hc1' : ¬ (b : Int) ≤ 2 * (k : Int) + 2 := by omega
        have HCV := Lib.hid (show Cover hs1 k b from fun c h1 h2 => .inl (by omega))
        by_cases hfk : f = k
        · subst hfk
          have hee : ((f : Int) == (f : Int)) = true := by simp
          have HDN := Lib.hid (show heapP hs1 from best_done HD.out HBE.out HCV.out)
          go_wp2
          go_end0
          exact ⟨rfl, hs1, by rw [HL1.out]; exact HH.out, HL1.out, HDN.out, HP.out, HG.out⟩
        · have hfb : 2 * k + 1 ≤ f ∧ f < b ∧ f < hs.length := by omega
          have hkn : k < hs.length := by omega
          have hee : ((f : Int) == (k : Int)) = false := by simp; omega
          obtain ⟨x, hx⟩ : ∃ x, hs1[k]? = some x := ⟨hs1[k]'(by have := HL1.out; omega), List.getElem?_eq_getElem _⟩
          obtain ⟨m, hm, hmx, hmc⟩ := HBE.out x hx
          have HDS := Lib.hid (show DownInv (swapL hs1 k f x m) f from best_step HD.out HBE.out HCV.out hx hm (by omega))
          have HX := Lib.hid hx
          have HM := Lib.hid hm
          clear hx hm hmx hmc
          go_wp2_with fail
          refine (iSwap_is _ B hb og hs1 (.slice (some ⟨g, 0, none⟩) hs.length cap) HH.out k f x m HX.out HM.out).mono ?_
          rintro e w7 ⟨rfl, hh7, hg7⟩
          have HH7 := Lib.hid hh7
          have HG7 : Hid (Gr2 w w7 hb (some g)) := Lib.hid (Gr2.trans HG.out (Gr2.of_gb hg7) (fun x e => .inl e))
          have HPN := Lib.hid ((swap_perm HX.out HM.out).trans HP.out)
          have HLN := Lib.hid (show (swapL hs1 k f x m).length = hs.length by rw [swap_len, HL1.out])
          clear hh7 hg7
          go_wp2
          go_roundw
          case rel => exact ⟨f, _, rfl, HLN, by omega, HH7, HDS, HPN, HG7⟩
          case measure => simp [intOf]; omega
end Go.Proofs.YtgponahmkjohiabGreatDoor
