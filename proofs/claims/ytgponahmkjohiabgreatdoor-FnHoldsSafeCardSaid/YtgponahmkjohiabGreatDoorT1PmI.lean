import Derived.Test.YtgponahmkjohiabGreatDoorT1PmH
namespace Go.Proofs.YtgponahmkjohiabGreatDoor
open Go.RowKit
set_option linter.unusedVariables false
theorem cell_blk {w : World} {g : Nat} {ty : TypeId} {z : Int} (h : Blk w g ty #[.int .i64 z]) : ∀ j u, ([Value.int .i64 z])[j]? = some u → w.cell? ((⟨g, 0, none⟩ : Addr).add j) = some u := by
  intro j u hj
  rw [add_at, Nat.zero_add, h.cell j, ← hj]
  simp
/-- What a step leaves. -/
def StepRes (B M : Nat) (A : Option Addr) (n c : Nat) (Aj : Option Addr) (nj cj : Nat) (P : Po) (g F X : Nat) (s : Mc) (d : Nat → Int) (w : World) (e : Ending) (w' : World) : Prop :=
  ∃ q : Pm, e = .returned (.tuple #[]) ∧ PS w' B M A n c Aj nj cj P g F X s d q ∧ (∃ ge ce, q.E = .slice (some ⟨ge, 0, none⟩) s.en.length ce) ∧ Below B w w'
theorem getD_set_same (l : List Int) (k : Nat) (z : Int) (hk : k < l.length) : (l.set k z).getD k 0 = z := by simp [List.getD, hk]
theorem getD_set_other (l : List Int) {k i : Nat} (z : Int) (h : i ≠ k) : (l.set k z).getD i 0 = l.getD i 0 := by simp [List.getD, List.getElem?_set_ne (Ne.symm h)]
theorem set_fI {wk : List (Nat × Int)} {b k : Nat} {d e : Int} (h : wk[b]? = some (k, d)) : (wk.set b (k, e)).map fI = wk.map fI := by
  rw [List.map_set]
  refine List.ext_getElem? fun i => ?_
  by_cases hi : i = b
  · subst hi
    have hl := (List.getElem?_eq_some_iff.1 h).1
    rw [List.getElem?_set_self (by rw [List.length_map]; exact hl), List.getElem?_map, h]
    rfl
  · rw [List.getElem?_set_ne (Ne.symm hi)]
section
variable {w w' : World} {B M : Nat} {A : Option Addr} {n c : Nat} {Aj : Option Addr} {nj cj : Nat} {P : Po} {g F X : Nat} {s : Mc} {d : Nat → Int} {p : Pm}
theorem PS.wk_ (h : PS w B M A n c Aj nj cj P g F X s d p) {wk : List (Nat × Int)} (hl : wk.length = s.wk.length) (hm : wk.map fI = s.wk.map fI) : PS w B M A n c Aj nj cj P g F X { s with wk := wk } d p :=
  ⟨h.at_, h.bM, h.L, h.J, h.mo, h.cm, by rw [h.cn]; exact hl.symm, by show p.lf.take wk.length = wk.map fI; rw [hl, hm]; exact h.lf, h.dn, h.e, h.t, h.z, h.et, h.ez, h.tz, h.eM, h.tM, h.zM, h.ord, h.oM, h.oE, h.oT, h.oS⟩
theorem OwnZ.keptRow {v : Value} {zs : List Int} {row : Option Nat} (h : OwnZ w B v zs) (hg : w.grownBy w' row) (hr : ∀ x, v.ownBlock = some x → row ≠ some x) : OwnZ w' B v zs :=
  World.ownsRow.kept h hg (by
    rcases he : v.ownBlock with _ | x
    · exact .inl rfl
    · right
      intro e
      first | exact hr x he e | exact hr x he e.symm)
/-- The machine after a switch was written down. -/
theorem PS.newS (h : PS w B M A n c Aj nj cj P g F X s d p) (hg : w.grownBy w' p.S.ownBlock) {v : Value} {zs : List Int} (ho : OwnZ w' B v zs) (hv : ∀ x, v.ownBlock = some x → p.S.ownBlock = some x ∨ w.heap.size ≤ x) : PS (w'.setCell ⟨M, 128, none⟩ v) B M A n c Aj nj cj P g F X { s with sw := zs } d { p with S := v } := by
  have hlE : ∀ x, p.E.ownBlock = some x → x < w.heap.size := fun x e => (World.ownsRow.lt h.e x e).2
  have hlT : ∀ x, p.T.ownBlock = some x → x < w.heap.size := fun x e => (World.ownsRow.lt h.t x e).2
  have hM := h.at_.lt
  have ho3 := h.ord.lt
  have hvM : v.ownBlock ≠ some M := fun e => by
    rcases hv M e with e2 | e2
    · exact h.zM e2
    · omega
  have hfar : ∀ {u : Value} {ys : List Int}, OwnZ w' B u ys → u.ownBlock ≠ some M → OwnZ (w'.setCell ⟨M, 128, none⟩ v) B u ys := fun hu hn => hu.kp (S := fun x => x = M) (Kp.set (S := fun x => x = M) (a := ⟨M, 128, none⟩) (Kp.refl w' _) (.inl rfl) v) (fun x e1 e2 => hn (e1.trans (congrArg some e2)))
  refine ⟨(h.at_.grown hg (fun e => h.zM e.symm)).sS v, h.bM, h.L, h.J, h.mo, h.cm, h.cn, h.lf, h.dn, hfar (h.e.keptRow hg (fun x e e2 => h.ez x e e2)) h.eM, hfar (h.t.keptRow hg (fun x e e2 => h.tz x e e2)) h.tM, hfar ho hvM, h.et, ?_, ?_, h.eM, h.tM, hvM, ?_, h.oM, h.oE, h.oT, ?_⟩
  · intro x e1 e2
    rcases hv x e2 with e3 | e3
    · exact h.ez x e1 e3
    · have := hlE x e1; omega
  · intro x e1 e2
    rcases hv x e2 with e3 | e3
    · exact h.tz x e1 e3
    · have := hlT x e1; omega
  · have hk : Kp w (w'.setCell ⟨M, 128, none⟩ v) (fun x => x = M ∨ p.S.ownBlock = some x) := ((Kp.refl w _).grown hg (fun x e => .inl (.inr e))).set (.inl (.inl rfl)) _
    have no : ∀ x, (x = g ∨ x = F ∨ x = X) → ¬ (x = M ∨ p.S.ownBlock = some x) := fun x hx e => by
      rcases e with e3 | e3
      · have := h.oM; omega
      · have := h.oS x e3; omega
    exact h.ord.kp hk (no g (.inl rfl)) (no F (.inr (.inl rfl))) (no X (.inr (.inr rfl)))
  · intro x e
    rcases hv x e with e3 | e3
    · exact h.oS x e3
    · omega
/-- The machine after a tick was written down. -/
theorem PS.newT (h : PS w B M A n c Aj nj cj P g F X s d p) (hg : w.grownBy w' p.T.ownBlock) {v : Value} {zs : List Int} (ho : OwnZ w' B v zs) (hv : ∀ x, v.ownBlock = some x → p.T.ownBlock = some x ∨ w.heap.size ≤ x) : PS (w'.setCell ⟨M, 127, none⟩ v) B M A n c Aj nj cj P g F X { s with tr := zs } d { p with T := v } := by
  have hlE : ∀ x, p.E.ownBlock = some x → x < w.heap.size := fun x e => (World.ownsRow.lt h.e x e).2
  have hlS : ∀ x, p.S.ownBlock = some x → x < w.heap.size := fun x e => (World.ownsRow.lt h.z x e).2
  have hM := h.at_.lt
  have ho3 := h.ord.lt
  have hvM : v.ownBlock ≠ some M := fun e => by
    rcases hv M e with e2 | e2
    · exact h.tM e2
    · omega
  have hfar : ∀ {u : Value} {ys : List Int}, OwnZ w' B u ys → u.ownBlock ≠ some M → OwnZ (w'.setCell ⟨M, 127, none⟩ v) B u ys := fun hu hn => hu.kp (S := fun x => x = M) (Kp.set (S := fun x => x = M) (a := ⟨M, 127, none⟩) (Kp.refl w' _) (.inl rfl) v) (fun x e1 e2 => hn (e1.trans (congrArg some e2)))
  refine ⟨(h.at_.grown hg (fun e => h.tM e.symm)).sT v, h.bM, h.L, h.J, h.mo, h.cm, h.cn, h.lf, h.dn, hfar (h.e.keptRow hg (fun x e e2 => h.et x e e2)) h.eM, hfar ho hvM, hfar (h.z.keptRow hg (fun x e e2 => h.tz x e2 e)) h.zM, ?_, h.ez, ?_, h.eM, hvM, h.zM, ?_, h.oM, h.oE, ?_, h.oS⟩
  · intro x e1 e2
    rcases hv x e2 with e3 | e3
    · exact h.et x e1 e3
    · have := hlE x e1; omega
  · intro x e1 e2
    rcases hv x e1 with e3 | e3
    · exact h.tz x e3 e2
    · have := hlS x e2; omega
  · have hk : Kp w (w'.setCell ⟨M, 127, none⟩ v) (fun x => x = M ∨ p.T.ownBlock = some x) := ((Kp.refl w _).grown hg (fun x e => .inl (.inr e))).set (.inl (.inl rfl)) _
    have no : ∀ x, (x = g ∨ x = F ∨ x = X) → ¬ (x = M ∨ p.T.ownBlock = some x) := fun x hx e => by
      rcases e with e3 | e3
      · have := h.oM; omega
      · have := h.oT x e3; omega
    exact h.ord.kp hk (no g (.inl rfl)) (no F (.inr (.inl rfl))) (no X (.inr (.inr rfl)))
  · intro x e
    rcases hv x e with e3 | e3
    · exact h.oT x e3
    · omega
/-- One cell of the machine written that is no list. -/
theorem PS.cell_ (h : PS w B M A n c Aj nj cj P g F X s d p) {q : Pm} {s' : Mc} {d' : Nat → Int} {i : Nat} {u : Value} (hq : PAt (w.setCell ⟨M, i, none⟩ u) M q) (hL : q.L = p.L) (hJ : q.J = p.J) (hO : q.O = p.O) (hE : q.E = p.E) (hT : q.T = p.T) (hS : q.S = p.S) (mo : q.mo = moV s'.hi) (cm : q.cm = s'.nx) (cn : q.cn = s'.wk.length) (lf : q.lf.take s'.wk.length = s'.wk.map fI) (dn : ∀ k, k < 60 → q.dn.getD k 0 = d' k) (en : s'.en = s.en) (tr : s'.tr = s.tr) (sw : s'.sw = s.sw) : PS (w.setCell ⟨M, i, none⟩ u) B M A n c Aj nj cj P g F X s' d' q := by
  have hfar : ∀ {v : Value} {ys : List Int}, OwnZ w B v ys → v.ownBlock ≠ some M → OwnZ (w.setCell ⟨M, i, none⟩ u) B v ys := fun hu hn => hu.kp (S := fun x => x = M) (Kp.set (S := fun x => x = M) (a := ⟨M, i, none⟩) (Kp.refl w _) (.inl rfl) u) (fun x e1 e2 => hn (e1.trans (congrArg some e2)))
  refine ⟨hq, h.bM, hL.trans h.L, hJ.trans h.J, mo, cm, cn, lf, dn, by rw [hE, en]; exact hfar h.e h.eM, by rw [hT, tr]; exact hfar h.t h.tM, by rw [hS, sw]; exact hfar h.z h.zM, by rw [hE, hT]; exact h.et, by rw [hE, hS]; exact h.ez, by rw [hT, hS]; exact h.tz, by rw [hE]; exact h.eM, by rw [hT]; exact h.tM, by rw [hS]; exact h.zM, ?_, h.oM, by rw [hE]; exact h.oE, by rw [hT]; exact h.oT, by rw [hS]; exact h.oS⟩
  rw [hO]
  have no : ∀ x, (x = g ∨ x = F ∨ x = X) → ¬ x = M := fun x hx e => by have := h.oM; omega
  exact h.ord.kp (S := fun x => x = M) (Kp.set (S := fun x => x = M) (a := ⟨M, i, none⟩) (Kp.refl w _) (.inl rfl) u) (no g (.inl rfl)) (no F (.inr (.inl rfl))) (no X (.inr (.inr rfl)))
end
/-- What follows from the job k having run, which is the b-th of those that are left and had d ticks before. -/
def folM (ts : List Tk) (js : List Jb) (now : Int) (b k : Nat) (d : Int) (s : Mc) : Mc :=
  if d + 1 = (jobOf js k).ne then { s with en := s.en.set k (now + 1), wk := s.wk.eraseIdx b }
  else if !s.hi && ((tkJ ts js k).cr && decide (d + 1 = (tkJ ts js k).lo)) then swM ts js (now + 1) { s with wk := s.wk.set b (k, d + 1) }
  else { s with wk := s.wk.set b (k, d + 1) }
theorem close_fol (ts : List Tk) (js : List Jb) (now : Int) (b k : Nat) (d : Int) (s : Mc) : closeM ts js now b k d s = folM ts js now b k d { s with tr := s.tr ++ [(jobOf js k).ta] } := by
  unfold closeM folM
  rfl
theorem set_fst {wk : List (Nat × Int)} {b k : Nat} {d e : Int} (h : wk[b]? = some (k, d)) : (wk.set b (k, e)).map Prod.fst = wk.map Prod.fst := by
  rw [List.map_set]
  refine List.ext_getElem? fun i => ?_
  by_cases hi : i = b
  · subst hi
    have hl := (List.getElem?_eq_some_iff.1 h).1
    rw [List.getElem?_set_self (by rw [List.length_map]; exact hl), List.getElem?_map, h]
    rfl
  · rw [List.getElem?_set_ne (Ne.symm hi)]
theorem left_fst {s : Mc} {len : Nat} (h : LeftOk s len) {s' : Mc} (hw : s'.wk.map Prod.fst = s.wk.map Prod.fst) (hn : s'.nx = s.nx) : LeftOk s' len := by
  refine ⟨by rw [hw]; exact h.1, fun q hq => ?_, by rw [hn]; exact h.2.2⟩
  have h1 : q.1 ∈ s'.wk.map Prod.fst := List.mem_map.2 ⟨q, hq, rfl⟩
  rw [hw, List.mem_map] at h1
  obtain ⟨r, hr, e⟩ := h1
  rw [hn, ← e]
  exact h.2.1 r hr
/-- What drop leaves of the machine. -/
def DropSRes (B M : Nat) (A : Option Addr) (n c : Nat) (Aj : Option Addr) (nj cj : Nat) (P : Po) (g F X : Nat) (s : Mc) (d : Nat → Int) (p : Pm) (ge : Nat) (w : World) (e : Ending) (w' : World) : Prop :=
  ∃ q : Pm, e = .returned (.tuple #[]) ∧ PS w' B M A n c Aj nj cj P g F X s d q ∧ SameP p q ∧ Kp w w' (fun x => x = ge ∨ x = M)
theorem iDropS_is (w : World) (B M : Nat) (A : Option Addr) (n c : Nat) (ts : List Tk) (Aj : Option Addr) (nj cj : Nat) (js : List Jb) (P : Po) (g F X : Nat) (s : Mc) (d : Nat → Int) (p : Pm) (hB : B ≤ w.heap.size) (hT : Tks w B A n ts) (hJ : Jbs w B Aj nj js) (hv : jobsB ts js = true) (hS : PS w B M A n c Aj nj cj P g F X s d p) (hLO : LeftOk s js.length) (hen : s.en.length = js.length)
    (ge ce : Nat) (hE : p.E = .slice (some ⟨ge, 0, none⟩) s.en.length ce) :
    Calls Tryz.prog 136 #[.pointer (some ⟨M, 0, none⟩)] w (DropSRes B M A n c Aj nj cj P g F X (dropM ts js s) d p ge w) := by
  have h60 : js.length ≤ 60 := (wrsB_iff.1 (jobs_wrs hv)).1
  have hgE : p.E.ownBlock = some ge := by rw [hE]; rfl
  have hgM : ge ≠ M := fun e => hS.eM (by rw [hgE, e])
  refine (iDrop_is w B M p A n c ts Aj nj cj js hB hT hJ hS.at_ hS.bM hS.L hS.J hv s.hi hS.mo ge ce s.en hE hS.e hen hgM s.wk hS.cn hS.lf (fun q hq => by have := hLO.2.1 q hq; have := hLO.2.2; omega) (by have := left_len hLO; have := hLO.2.2; omega)).mono ?_
  rintro e w5 ⟨lf, rfl, hp5, hl5, he5, hk5⟩
  refine ⟨_, rfl, hS.turn hk5 (fun x e => by rcases e with rfl | rfl; exact .inr hgE; exact .inl rfl) hp5 ⟨rfl, rfl, rfl, rfl, rfl, rfl, rfl, rfl⟩ ?_ ?_ ?_ ?_ ?_ ?_ ?_, ⟨rfl, rfl, rfl, rfl, rfl, rfl, rfl, rfl⟩, hk5⟩
  · unfold dropM; split <;> rfl
  · unfold dropM; split <;> rfl
  · unfold dropM; split <;> rfl
  · dsimp only; rw [hS.cm]; unfold dropM; split <;> rfl
  · have e : (dropM ts js s).wk = if s.hi then s.wk.filter (fun q => (tkJ ts js q.1).cr) else s.wk := by unfold dropM; split <;> rfl
    rw [e]
  · have e : (dropM ts js s).wk = if s.hi then s.wk.filter (fun q => (tkJ ts js q.1).cr) else s.wk := by unfold dropM; split <;> rfl
    rw [e]
    exact hl5
  · have he6 : OwnZ w5 B p.E (dropF ts js s.hi s.en s.wk s.wk.length) := he5
    show OwnZ w5 B p.E (dropM ts js s).en
    have : (dropM ts js s).en = dropF ts js s.hi s.en s.wk s.wk.length := by unfold dropM dropF; split <;> rename_i h <;> simp
    rw [this]; exact he6
/-- What keep leaves where one is taken out. -/
def FolKeep (M : Nat) (p : Pm) (wk : List (Nat × Int)) (w : World) (e : Ending) (w' : World) : Prop :=
  ∃ lf : List Int, e = .returned (.tuple #[]) ∧ PAt w' M { p with lf := lf, cn := wk.length } ∧ lf.take wk.length = wk.map fI ∧ Kp w w' (fun x => x = M)
set_option maxRecDepth 100000 in
set_option maxHeartbeats 8000000 in
theorem iFollow_is (w : World) (B M : Nat) (A : Option Addr) (n c : Nat) (ts : List Tk) (Aj : Option Addr) (nj cj : Nat) (js : List Jb) (P : Po) (g F X : Nat) (s : Mc) (d : Nat → Int) (p : Pm) (hB : B ≤ w.heap.size) (hT : Tks w B A n ts) (hJ : Jbs w B Aj nj js) (hv : jobsB ts js = true) (hS : PS w B M A n c Aj nj cj P g F X s d p) (hLO : LeftOk s js.length) (hen : s.en.length = js.length)
    (ge ce : Nat) (hE : p.E = .slice (some ⟨ge, 0, none⟩) s.en.length ce) (b k : Nat) (d0 : Int) (hk : s.wk[b]? = some (k, d0)) (hd : d k = d0 + 1) (now : Int) (n0 : 0 ≤ now) (n1 : now ≤ 1000) (hsl : s.sw.length ≤ 100000) :
    Calls Tryz.prog 96 #[.pointer (some ⟨M, 0, none⟩), .int .i64 (k : Int), .int .i64 (now + 1)] w (StepRes B M A n c Aj nj cj P g F X (folM ts js now b k d0 s) d w) := by
  obtain ⟨i1, hi1, hy0, hy1, hy2⟩ := info_parts info_int
  have h60 : js.length ≤ 60 := (wrsB_iff.1 (jobs_wrs hv)).1
  have hkn : k < js.length := by have := hLO.2.1 (k, d0) (List.mem_of_getElem? hk); have := hLO.2.2; dsimp only at *; omega
  have hgE : p.E.ownBlock = some ge := by rw [hE]; rfl
  have hgM : ge ≠ M := fun e => hS.eM (by rw [hgE, e])
  have hMl := hS.at_.lt
  have hgl : B ≤ ge ∧ ge < w.heap.size := by have h := hS.e; rw [hE] at h; exact h.lt
  have hbM := hS.bM
  obtain ⟨W1, hW1⟩ : ∃ W1, w.alloc (.cells #[.int .i64 (k : Int)] 3) = W1 := ⟨_, rfl⟩
  have hb1 : Below w.heap.size w W1 := hW1 ▸ bl_alloc (Below.refl _ _) _
  have hs1 := hb1.size
  have hR1 : Blk W1 w.heap.size 3 #[.int .i64 (k : Int)] := hW1 ▸ Blk.new w _ _
  have hS1 := hS.bel hb1
  obtain ⟨⟨ta, tm, ne⟩, hjk⟩ : ∃ j, jobOf js k = j := ⟨_, rfl⟩
  obtain ⟨bj, oj, eA, hbj, a0, a1, a2⟩ := (hJ.below (hb1.mono hB)).at_ k _ (job_get hkn)
  rw [hjk] at a0 a1 a2
  dsimp only at a0 a1 a2
  have c1 : W1.cell? ⟨M, 1, none⟩ = some (.slice (some ⟨bj, oj, none⟩) nj cj) := by rw [hS1.at_.c1, hS1.J, eA]
  have cd : W1.cell? ⟨M, 66 + k, none⟩ = some (.int .i64 (d0 + 1)) := by rw [hS1.at_.done (by omega), hS1.dn k (by omega), hd]
  have r0 : W1.cell? ⟨w.heap.size, 0, none⟩ = some (.int .i64 (k : Int)) := hR1.cell 0
  have cE : W1.cell? ⟨M, 126, none⟩ = some (.slice (some ⟨ge, 0, none⟩) s.en.length ce) := by rw [hS1.at_.c126, hE]
  have k0 : (0 : Int) ≤ (k : Int) := by omega
  have k1 : (k : Int) < (nj : Int) := by have := hJ.len; omega
  have k2 : (k : Int) < 60 := by omega
  have k3 : (k : Int) < (s.en.length : Int) := by omega
  have n2 : IntKind.i64.wrap (now + 1) = now + 1 := IntWalk.i64_in _ (by omega)
  have HS := Lib.hid hS
  have HS1 := Lib.hid hS1
  have HT := Lib.hid hT
  have HJ := Lib.hid hJ
  have HV := Lib.hid hv
  have HLO := Lib.hid hLO
  have HEN := Lib.hid hen
  have HE := Lib.hid hE
  have HK := Lib.hid hk
  have HD := Lib.hid hd
  have HGE := Lib.hid hgE
  have HB1 := Lib.hid hb1
  have HR1 := Lib.hid hR1
  have HJK := Lib.hid hjk
  have HKN := Lib.hid hkn
  obtain ⟨l, hl⟩ : ∃ l, s.en.length = l := ⟨_, rfl⟩
  rw [hl] at cE k3
  have HL := Lib.hid hl
  clear hS hS1 hT hJ hv hLO hen hE hk hd hgE hb1 hR1 hjk hkn eA a0 a1 hl
  have HKEEP : Hid (∀ W : World, PAt W M p → Blk W w.heap.size 3 #[.int .i64 (k : Int)] → Calls Tryz.prog 138 #[.pointer (some ⟨M, 5, none⟩), .func (.func 139) #[] #[.pointer (some ⟨w.heap.size, 0, none⟩)]] W (FolKeep M p (s.wk.eraseIdx b) W)) := Lib.hid (fun W hpW hRW => by
    have h := iPlKeep_is W M 139 #[.pointer (some ⟨w.heap.size, 0, none⟩)] p (fun z => !decide (z = (k : Int))) (fun i W' => Kp W W' (fun x => x = M) ∧ Blk W' w.heap.size 3 #[.int .i64 (k : Int)]) hpW (by rw [HS.out.cn]; have := left_len HLO.out; have := HLO.out.2.2; omega)
      (enters_of Tryz.func139 (by kernel_rfl) rfl)
      ⟨Kp.refl W _, hRW⟩
      (fun i W' j u h => ⟨Kp.set (S := fun x => x = M) (a := ⟨M, j, none⟩) h.1 (.inl rfl) u, h.2.far (by dsimp only; omega) _⟩)
      (fun i W' W'' h hb => ⟨h.1.bel hb, h.2.below hb h.2.lt⟩)
      (fun i lf W' hi' h hp' => by
        have hcn := HS.out.cn
        obtain ⟨q, hq⟩ : ∃ q, s.wk[i]? = some q := ⟨s.wk[i]'(by omega), List.getElem?_eq_getElem _⟩
        have hz : p.lf.getD i 0 = (q.1 : Int) := by
          have h1 : (p.lf.take s.wk.length)[i]? = some (fI q) := by rw [HS.out.lf, List.getElem?_map, hq]; rfl
          rw [List.getElem?_take, if_pos (by omega)] at h1
          simp [List.getD, h1, fI]
        rw [hz]
        refine (fol1_is W' w.heap.size q.1 k h.2 _ rfl).mono ?_
        rintro e W'' ⟨rfl, hb⟩
        exact ⟨rfl, ⟨h.1.bel hb, h.2.below hb h.2.lt⟩, hp'.bel hb⟩)
    refine h.mono ?_
    rintro e w' ⟨lf, rfl, h1, h2, h3⟩
    have e1 : (p.lf.take p.cn).filter (fun z => !decide (z = (k : Int))) = (s.wk.eraseIdx b).map fI := by
      rw [HS.out.cn, HS.out.lf, List.filter_map, ← erase_filter HLO.out.1 HK.out]
      rfl
    rw [e1, List.length_map] at h1 h2
    exact ⟨lf, rfl, h1, h2, h3.1⟩)
  by_cases hq : d0 + 1 = ne
  · subst hq
    have t1 : (d0 + 1 == d0 + 1) = true := beq_self_eq_true _
    have HF : Hid (folM ts js now b k d0 s = { s with en := s.en.set k (now + 1), wk := s.wk.eraseIdx b }) := Lib.hid (by unfold folM; rw [HJK.out, if_pos rfl])
    have oE : OwnZ W1 B (.slice (some ⟨ge, 0, none⟩) l ce) s.en := by have h := HS1.out.e; rw [HE.out, HL.out] at h; exact h
    have ff := oE.frozen
    have gk := oE.celld (j := k) (by have := HL.out; omega)
    have HE2 : Hid (∀ m : Nat, OwnZ ((W1.drewN m).setCell ⟨ge, k, none⟩ (.int .i64 (now + 1))) B (.slice (some ⟨ge, 0, none⟩) l ce) (s.en.set k (now + 1))) := Lib.hid (fun m => (oE.below (bl_drewN (Below.refl _ _) m)).put k (now + 1))
    have HP2 : Hid (∀ m : Nat, PAt ((W1.drewN m).setCell ⟨ge, k, none⟩ (.int .i64 (now + 1))) M p) := Lib.hid (fun m => (HS1.out.at_.drewN m).far (by dsimp only; omega) _)
    have HR2 : Hid (∀ m : Nat, Blk ((W1.drewN m).setCell ⟨ge, k, none⟩ (.int .i64 (now + 1))) w.heap.size 3 #[.int .i64 (k : Int)]) := Lib.hid (fun m => (HR1.out.drewN m).far (by dsimp only; omega) _)
    have HK2 : Hid (∀ m : Nat, Kp w ((W1.drewN m).setCell ⟨ge, k, none⟩ (.int .i64 (now + 1))) (fun x => x = ge ∨ x = M)) := Lib.hid (fun m => Kp.set (S := fun x => x = ge ∨ x = M) (a := ⟨ge, k, none⟩) (kp_of_bel (bl_trans HB1.out (bl_drewN (Below.refl _ _) m))) (.inl (.inl rfl)) _)
    clear oE
    rw [HF.out]
    go_enter Tryz.func96, Tryz.ntmps96
    go_wp2_with fail
    go_quiet (fail)
    go_wp2_with fail
    go_region
    all_goals (
      go_wp2_with fail
      refine (HKEEP.out _ (by first | exact HP2.out _ | exact (HP2.out _).drew) (by first | exact HR2.out _ | exact (HR2.out _).drew)).mono ?_
      rintro e w5 ⟨lf, rfl, hp5, hl5, hk5⟩
      have HK5 : Hid (Kp w w5 (fun x => x = ge ∨ x = M)) := Lib.hid (by first | exact (HK2.out _).trans hk5 (fun x e => .inl (.inr e)) | exact ((HK2.out _).drew).trans hk5 (fun x e => .inl (.inr e)))
      have HE5 : Hid (OwnZ w5 B p.E (s.en.set k (now + 1))) := Lib.hid (by
        rw [HE.out, HL.out]
        have hn : ∀ x, (Value.slice (some ⟨ge, 0, none⟩) l ce).ownBlock = some x → ¬ x = M := fun x e1 e2 => by injection e1 with e1; exact hgM (e1.trans e2)
        first | exact (HE2.out _).kp hk5 hn | exact (HE2.out _).drewM.kp hk5 hn)
      have HX5 : Hid (StepRes B M A n c Aj nj cj P g F X { s with en := s.en.set k (now + 1), wk := s.wk.eraseIdx b } d w (.returned (.tuple #[])) w5) := Lib.hid (by
        refine ⟨_, rfl, HS.out.turn HK5.out (fun x e => by rcases e with rfl | rfl; exact .inr HGE.out; exact .inl rfl) hp5 ⟨rfl, rfl, rfl, rfl, rfl, rfl, rfl, rfl⟩ rfl rfl rfl HS.out.cm rfl hl5 HE5.out, ⟨ge, ce, ?_⟩, HK5.out.below hB (fun x e => by rcases e with rfl | rfl; exact hgl.1; exact hbM)⟩
        show p.E = .slice (some ⟨ge, 0, none⟩) (s.en.set k (now + 1)).length ce
        rw [List.length_set]
        exact HE.out)
      clear hp5 hl5 hk5
      go_wp2
      go_end0
      exact HX5.out)
  · have t1 : (d0 + 1 == ne) = false := by rw [beq_eq_false_iff_ne]; exact hq
    have t1' : decide (d0 + 1 = ne) = false := decide_eq_false hq
    obtain ⟨t, ht⟩ : ∃ t, tkJ ts js k = t := ⟨_, rfl⟩
    have HTO : Hid (∀ W : World, Below w.heap.size w W → Calls Tryz.prog 140 #[.pointer (some ⟨M, 0, none⟩), .int .i64 (k : Int)] W fun e w' => e = .returned (tkV t) ∧ Below W.heap.size W w') := Lib.hid (fun W hbW => by
      have h := iTaskOf_is W B M p A n c ts Aj nj cj js (by have := hbW.size; omega) (HT.out.below (hbW.mono hB)) (HJ.out.below (hbW.mono hB)) (HS.out.at_.bel hbW) HS.out.L HS.out.J HV.out k HKN.out
      rw [ht] at h
      exact h)
    have HF : Hid (folM ts js now b k d0 s = if !s.hi && (t.cr && decide (d0 + 1 = t.lo)) then swM ts js (now + 1) { s with wk := s.wk.set b (k, d0 + 1) } else { s with wk := s.wk.set b (k, d0 + 1) }) := Lib.hid (by unfold folM; rw [HJK.out, if_neg hq, ht])
    have HQ : Hid True := Lib.hid trivial
    have HNQ := Lib.hid hq
    have hM1 : M < W1.heap.size := by omega
    have hR1l : w.heap.size < W1.heap.size := HR1.out.lt
    clear hq ht
    cases hh : s.hi
    · have c3 : W1.cell? ⟨M, 3, none⟩ = some (.iface 124 (.agg #[])) := by rw [HS1.out.at_.c3, HS1.out.mo, hh]; rfl
      have hm := m_exL
      obtain ⟨r, hr⟩ : ∃ r, (t.cr && decide (d0 + 1 = t.lo)) = r := ⟨_, rfl⟩
      have HHH := Lib.hid hh
      have HR := Lib.hid hr
      clear hh hr
      cases r
      · have HF2 : Hid (folM ts js now b k d0 s = { s with wk := s.wk.set b (k, d0 + 1) }) := Lib.hid (by rw [HF.out, if_neg (by rw [HHH.out, HR.out]; decide)])
        rw [HF2.out]
        clear HF
        go_enter Tryz.func96, Tryz.ntmps96
        go_wp2_with fail
        go_quiet (fail)
        go_wp2_with fail
        go_region_held3 (fun W => W.cell? ⟨M, 3, none⟩ = some (.iface 124 (.agg #[])) ∧ W.cell? ⟨w.heap.size, 0, none⟩ = some (.int .i64 (k : Int)) ∧ W.cell? ⟨M, 66 + k, none⟩ = some (.int .i64 (d0 + 1))) (first | assumption | (simp [go_sem, *]; done))
          ((first
            | (have uu := HQ; clear uu; go_at_call 140; refine (HTO.out _ (blB HB1.out hs1 (by repeat (first | exact Below.refl _ _ | with_reducible refine Below.drew ?_ | with_reducible refine bl_drewN ?_ _)))).mono ?_; rintro e w2 ⟨rfl, hb⟩; have HB2 := Lib.hid (show Below W1.heap.size W1 w2 from bl_trans (by repeat (first | exact Below.refl _ _ | with_reducible refine Below.drew ?_ | with_reducible refine bl_drewN ?_ _)) hb); have y3 : w2.cell? ⟨M, 3, none⟩ = some (.iface 124 (.agg #[])) := (HB2.out.cell (p := ⟨M, 3, none⟩) hM1).trans c3; have yr : w2.cell? ⟨w.heap.size, 0, none⟩ = some (.int .i64 (k : Int)) := (HB2.out.cell (p := ⟨w.heap.size, 0, none⟩) hR1l).trans r0; have yd : w2.cell? ⟨M, 66 + k, none⟩ = some (.int .i64 (d0 + 1)) := (HB2.out.cell (p := ⟨M, 66 + k, none⟩) hM1).trans cd; clear HQ hb)
            | (have uu := HB2; clear uu; go_at_call 189; refine (exL_is _ t (d0 + 1) false HR.out).mono ?_; rintro e w3 ⟨rfl, hb⟩; have HB3 := Lib.hid (show Below W1.heap.size W1 w3 from bl_trans HB2.out (bl_trans (by repeat (first | exact Below.refl _ _ | with_reducible refine Below.drew ?_ | with_reducible refine bl_drewN ?_ _)) hb)); have z3 : w3.cell? ⟨M, 3, none⟩ = some (.iface 124 (.agg #[])) := (HB3.out.cell (p := ⟨M, 3, none⟩) hM1).trans c3; have zr : w3.cell? ⟨w.heap.size, 0, none⟩ = some (.int .i64 (k : Int)) := (HB3.out.cell (p := ⟨w.heap.size, 0, none⟩) hR1l).trans r0; have zd : w3.cell? ⟨M, 66 + k, none⟩ = some (.int .i64 (d0 + 1)) := (HB3.out.cell (p := ⟨M, 66 + k, none⟩) hM1).trans cd; clear hb y3 yr yd)))
        all_goals (
          have HSX : Hid (∀ W, Below w3.heap.size w3 W → StepRes B M A n c Aj nj cj P g F X { s with wk := s.wk.set b (k, d0 + 1) } d w (.returned (.tuple #[])) W) := Lib.hid (fun W hW => ⟨p, rfl, (HS.out.bel (blB HB1.out hs1 (bl_trans HB3.out hW))).wk_ (by simp) (set_fI HK.out), ⟨ge, ce, HE.out⟩, (blB HB1.out hs1 (bl_trans HB3.out hW)).mono hB⟩)
          go_wp2_with fail
          go_end0
          exact HSX.out _ (by repeat (first | exact Below.refl _ _ | refine Below.drew ?_ | refine bl_drewN ?_ _)))
      · have HF2 : Hid (folM ts js now b k d0 s = swM ts js (now + 1) { s with wk := s.wk.set b (k, d0 + 1) }) := Lib.hid (by rw [HF.out, if_pos (by rw [HHH.out, HR.out]; rfl)])
        rw [HF2.out]
        clear HF
        go_enter Tryz.func96, Tryz.ntmps96
        go_wp2_with fail
        go_quiet (fail)
        go_wp2_with fail
        go_region_held3 (fun W => W.cell? ⟨M, 3, none⟩ = some (.iface 124 (.agg #[])) ∧ W.cell? ⟨w.heap.size, 0, none⟩ = some (.int .i64 (k : Int)) ∧ W.cell? ⟨M, 66 + k, none⟩ = some (.int .i64 (d0 + 1))) (first | assumption | (simp [go_sem, *]; done))
          ((first
            | (have uu := HQ; clear uu; go_at_call 140; refine (HTO.out _ (blB HB1.out hs1 (by repeat (first | exact Below.refl _ _ | with_reducible refine Below.drew ?_ | with_reducible refine bl_drewN ?_ _)))).mono ?_; rintro e w2 ⟨rfl, hb⟩; have HB2 := Lib.hid (show Below W1.heap.size W1 w2 from bl_trans (by repeat (first | exact Below.refl _ _ | with_reducible refine Below.drew ?_ | with_reducible refine bl_drewN ?_ _)) hb); have y3 : w2.cell? ⟨M, 3, none⟩ = some (.iface 124 (.agg #[])) := (HB2.out.cell (p := ⟨M, 3, none⟩) hM1).trans c3; have yr : w2.cell? ⟨w.heap.size, 0, none⟩ = some (.int .i64 (k : Int)) := (HB2.out.cell (p := ⟨w.heap.size, 0, none⟩) hR1l).trans r0; have yd : w2.cell? ⟨M, 66 + k, none⟩ = some (.int .i64 (d0 + 1)) := (HB2.out.cell (p := ⟨M, 66 + k, none⟩) hM1).trans cd; clear HQ hb)
            | (have uu := HB2; clear uu; go_at_call 189; refine (exL_is _ t (d0 + 1) true HR.out).mono ?_; rintro e w3 ⟨rfl, hb⟩; have HB3 := Lib.hid (show Below W1.heap.size W1 w3 from bl_trans HB2.out (bl_trans (by repeat (first | exact Below.refl _ _ | with_reducible refine Below.drew ?_ | with_reducible refine bl_drewN ?_ _)) hb)); have z3 : w3.cell? ⟨M, 3, none⟩ = some (.iface 124 (.agg #[])) := (HB3.out.cell (p := ⟨M, 3, none⟩) hM1).trans c3; have zr : w3.cell? ⟨w.heap.size, 0, none⟩ = some (.int .i64 (k : Int)) := (HB3.out.cell (p := ⟨w.heap.size, 0, none⟩) hR1l).trans r0; have zd : w3.cell? ⟨M, 66 + k, none⟩ = some (.int .i64 (d0 + 1)) := (HB3.out.cell (p := ⟨M, 66 + k, none⟩) hM1).trans cd; clear hb y3 yr yd)))
        all_goals (
          obtain ⟨w4, hw4⟩ : ∃ w4, w3.alloc (.cells #[.int .i64 (now + 1)] 3) = w4 := ⟨_, rfl⟩
          have HB4 := Lib.hid (show Below w.heap.size w w4 from blB HB1.out hs1 (bl_trans HB3.out (hw4 ▸ bl_alloc (Below.refl _ _) _)))
          have HS4 := Lib.hid (HS.out.bel HB4.out)
          have HS3 := Lib.hid (HS.out.bel (blB HB1.out hs1 HB3.out))
          have cS := HS3.out.at_.c128
          have hn4 := Blk.new w3 3 #[.int .i64 (now + 1)]
          rw [hw4] at hn4
          have HN4 := Lib.hid hn4
          have b1 : s.sw.length + 1 ≤ maxLen := by unfold maxLen; omega
          have b2 : (s.sw.length + 1) * 8 ≤ 140737488355328 := by omega
          have hB4 : B ≤ w4.heap.size := by have := HB4.out.size; omega
          clear hn4
          go_wp2_with (at_builtin; refine wpList_append_own_at _ rfl (.tmp 57) (.tmp 59) 27 rfl B 3 i1 _ 1 8 Tryz.underlying27 hi1 hy0 hy1 hy2 rfl (by decide) p.S s.sw.length (s.sw.map (Value.int .i64)) rfl (by exact HS4.out.z) ⟨w3.heap.size, 0, none⟩ 1 1 [Value.int .i64 (now + 1)] rfl rfl (cell_blk HN4.out) (by intro u hu; rw [List.mem_singleton.1 hu]; rfl) b1 b2 hB4 ?_; intro v' w7 hown' hgrow _ hor; have HZ7 := Lib.hid (show OwnZ w7 B v' (s.sw ++ [now + 1]) from OwnZ.snoc hown'); have HV7 : Hid (∀ x, v'.ownBlock = some x → p.S.ownBlock = some x ∨ w4.heap.size ≤ x) := Lib.hid (fun x e => by rcases hor with h | h; exact .inl (h ▸ e); right; rw [h] at e; injection e with e; omega); obtain ⟨A7, c7, rfl⟩ := HZ7.out.form; have HS7 := Lib.hid (show PS (w7.setCell ⟨M, 128, none⟩ (.slice A7 (s.sw.length + 1) c7)) B M A n c Aj nj cj P g F X { s with sw := s.sw ++ [now + 1] } d { p with S := .slice A7 (s.sw.length + 1) c7 } from by have h := HS4.out.newS hgrow HZ7.out HV7.out; rw [List.length_append] at h; exact h); have HG7 := Lib.hid hgrow; have p7 := HS4.out.at_.grown hgrow (fun e => HS4.out.zM e.symm); have x128 := p7.c128; have f7 := p7.frozen; have x3 := HS7.out.at_.c3; clear hown' hgrow hor p7)
          have HB7 : Hid (Below B w (w7.setCell ⟨M, 128, none⟩ (.slice A7 (s.sw.length + 1) c7))) := Lib.hid (((HB4.out.mono hB).grown HG7.out hB4 (fun x e => (HS4.out.wrB x (.inr (.inr (.inr e)))).1)).setCell hbM _)
          have HS8 : Hid (PS ((w7.setCell ⟨M, 128, none⟩ (.slice A7 (s.sw.length + 1) c7)).setCell ⟨M, 3, none⟩ (.iface 162 (.agg #[]))) B M A n c Aj nj cj P g F X { s with wk := s.wk.set b (k, d0 + 1), hi := true, sw := s.sw ++ [now + 1] } d { p with S := .slice A7 (s.sw.length + 1) c7, mo := .iface 162 (.agg #[]) }) := Lib.hid ((HS7.out.wk_ (wk := s.wk.set b (k, d0 + 1)) (by simp) (set_fI HK.out)).cell_ (HS7.out.at_.sMo _) rfl rfl rfl rfl rfl rfl rfl HS.out.cm (by dsimp only; rw [HS.out.cn, List.length_set]) (by dsimp only; rw [List.length_set, set_fI HK.out]; exact HS.out.lf) HS.out.dn rfl rfl rfl)
          have HB8 : Hid (Below B w ((w7.setCell ⟨M, 128, none⟩ (.slice A7 (s.sw.length + 1) c7)).setCell ⟨M, 3, none⟩ (.iface 162 (.agg #[])))) := Lib.hid (HB7.out.setCell hbM _)
          have HLO8 : Hid (LeftOk { s with wk := s.wk.set b (k, d0 + 1), hi := true, sw := s.sw ++ [now + 1] } js.length) := Lib.hid (left_fst HLO.out (set_fst HK.out) rfl)
          have HDR := Lib.hid (iDropS_is _ B M A n c ts Aj nj cj js P g F X _ d _ (by have := HB8.out.size; omega) (HT.out.below HB8.out) (HJ.out.below HB8.out) HV.out HS8.out HLO8.out HEN.out ge ce HE.out)
          go_wp2_with fail
          refine HDR.out.mono ?_
          rintro e w9 ⟨q9, rfl, hs9, hsp9, hk9⟩
          have HX9 : Hid (StepRes B M A n c Aj nj cj P g F X (swM ts js (now + 1) { s with wk := s.wk.set b (k, d0 + 1) }) d w (.returned (.tuple #[])) w9) := Lib.hid (by
            rw [sw_drop]
            refine ⟨q9, rfl, hs9, ⟨ge, ce, ?_⟩, HB8.out.trans (hk9.below (by have := HB8.out.size; omega) (fun x e => by rcases e with rfl | rfl; exact hgl.1; exact hbM))⟩
            rw [hsp9.E]
            show p.E = _
            rw [HE.out]
            congr 1
            unfold dropM
            rw [if_pos rfl]
            exact (drop_len ts js _ _).symm)
          clear hs9 hsp9 hk9
          go_wp2
          go_end0
          exact HX9.out)
    · have c3 : W1.cell? ⟨M, 3, none⟩ = some (.iface 162 (.agg #[])) := by rw [HS1.out.at_.c3, HS1.out.mo, hh]; rfl
      have hm := m_exH
      have HHH := Lib.hid hh
      have HF2 : Hid (folM ts js now b k d0 s = { s with wk := s.wk.set b (k, d0 + 1) }) := Lib.hid (by rw [HF.out, if_neg (by rw [HHH.out]; simp)])
      rw [HF2.out]
      clear HF hh
      go_enter Tryz.func96, Tryz.ntmps96
      go_wp2_with fail
      go_quiet (fail)
      go_wp2_with fail
      go_region_held3 (fun W => W.cell? ⟨M, 3, none⟩ = some (.iface 162 (.agg #[])) ∧ W.cell? ⟨w.heap.size, 0, none⟩ = some (.int .i64 (k : Int)) ∧ W.cell? ⟨M, 66 + k, none⟩ = some (.int .i64 (d0 + 1))) (first | assumption | (simp [go_sem, *]; done))
        ((first
          | (have uu := HQ; clear uu; go_at_call 140; refine (HTO.out _ (blB HB1.out hs1 (by repeat (first | exact Below.refl _ _ | with_reducible refine Below.drew ?_ | with_reducible refine bl_drewN ?_ _)))).mono ?_; rintro e w2 ⟨rfl, hb⟩; have HB2 := Lib.hid (show Below W1.heap.size W1 w2 from bl_trans (by repeat (first | exact Below.refl _ _ | with_reducible refine Below.drew ?_ | with_reducible refine bl_drewN ?_ _)) hb); have y3 : w2.cell? ⟨M, 3, none⟩ = some (.iface 162 (.agg #[])) := (HB2.out.cell (p := ⟨M, 3, none⟩) hM1).trans c3; have yr : w2.cell? ⟨w.heap.size, 0, none⟩ = some (.int .i64 (k : Int)) := (HB2.out.cell (p := ⟨w.heap.size, 0, none⟩) hR1l).trans r0; have yd : w2.cell? ⟨M, 66 + k, none⟩ = some (.int .i64 (d0 + 1)) := (HB2.out.cell (p := ⟨M, 66 + k, none⟩) hM1).trans cd; clear HQ hb)
          | (have uu := HB2; clear uu; go_at_call 193; refine (exH_is _ t (d0 + 1)).mono ?_; rintro e w3 ⟨rfl, hb⟩; have HB3 := Lib.hid (show Below W1.heap.size W1 w3 from bl_trans HB2.out (bl_trans (by repeat (first | exact Below.refl _ _ | with_reducible refine Below.drew ?_ | with_reducible refine bl_drewN ?_ _)) hb)); have z3 : w3.cell? ⟨M, 3, none⟩ = some (.iface 162 (.agg #[])) := (HB3.out.cell (p := ⟨M, 3, none⟩) hM1).trans c3; have zr : w3.cell? ⟨w.heap.size, 0, none⟩ = some (.int .i64 (k : Int)) := (HB3.out.cell (p := ⟨w.heap.size, 0, none⟩) hR1l).trans r0; have zd : w3.cell? ⟨M, 66 + k, none⟩ = some (.int .i64 (d0 + 1)) := (HB3.out.cell (p := ⟨M, 66 + k, none⟩) hM1).trans cd; clear hb y3 yr yd)))
      all_goals (
        have HSX : Hid (∀ W, Below w3.heap.size w3 W → StepRes B M A n c Aj nj cj P g F X { s with wk := s.wk.set b (k, d0 + 1) } d w (.returned (.tuple #[])) W) := Lib.hid (fun W hW => ⟨p, rfl, (HS.out.bel (blB HB1.out hs1 (bl_trans HB3.out hW))).wk_ (by simp) (set_fI HK.out), ⟨ge, ce, HE.out⟩, (blB HB1.out hs1 (bl_trans HB3.out hW)).mono hB⟩)
        go_wp2_with fail
        go_end0
        exact HSX.out _ (by repeat (first | exact Below.refl _ _ | refine Below.drew ?_ | refine bl_drewN ?_ _)))
end Go.Proofs.YtgponahmkjohiabGreatDoor
