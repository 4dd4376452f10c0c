/- The variable errTooGreat, as the walks ask it; errors.Is asked whether an error is the variable's: the contracts of errors.Is for nil and for the error itself. -/
import Derived.Test.YtncgchlnaobalabDoorNum
import Derived.LaidEql
import Derived.Stop.Asserts
import Derived.RowKitTokens
namespace Go.Proofs.YtncgchlnaobalabDoor
open Go.RowKit Go.Extern.Stop Go.Stop Go.Extern

/-- The variable holds the address a of an error. -/
def EG (w : World) (a : Addr) : Prop := w.cell? ⟨0, 0, none⟩ = some (.iface 90 (.pointer (some a)))
theorem EG.lt {w : World} {a : Addr} (h : EG w a) : 0 < w.heap.size := World.block_lt_of_cell? w _ h
theorem EG.below {w w' : World} {a : Addr} (h : EG w a) (hb : Below w.heap.size w w') : EG w' a := (hb.cell (p := ⟨0, 0, none⟩) h.lt).trans h

theorem EG.drewN {w : World} {a : Addr} (h : EG w a) (k : Nat) : EG (w.drewN k) a := h
theorem EG.drew {w : World} {a : Addr} (h : EG w a) : EG w.drew a := h
theorem EG.alloc {w : World} {a : Addr} (h : EG w a) (o : Obj) : EG (w.alloc o) a := (World.cell?_alloc_lt w o _ h.lt).trans h
theorem EG.set {w : World} {a : Addr} (h : EG w a) {p : Addr} (hp : 0 ≠ p.block) (u : Value) : EG (w.setCell p u) a :=
  (World.cell?_setCell_other w _ _ _ (fun e => hp (by rw [e]))).trans h

theorem isTypeOf (v : Value) (w : World) : (Extern.ReflectliteType.typeOf #[.iface 90 v]).run Tryd.prog w = .ok (.iface 80 (.agg #[.pointer (some ⟨1, 90, none⟩)])) w := by kernel_rfl
/-- What the model runs for Comparable. -/
def cmpF (t : TypeId) : Sem Value := do Extern.Rtype.noPackHeld "Comparable" t; pure (.bool (← typeInfo t).comparable)
theorem isComparable (w : World) : (Extern.ReflectliteType.method cmpF #[.agg #[.pointer (some ⟨1, 90, none⟩)]]).run Tryd.prog w = .ok (.bool true) w := by kernel_rfl
theorem isMethodComparable (v : Value) (w : World) : (Go.method 230 80 v "Comparable").run Tryd.prog w = .ok (75, v) w := by kernel_rfl
theorem isComp : (Tryd.prog.info? 90).map (·.comparable) = some true := by kernel_rfl
theorem isSize : (Tryd.prog.info? 117).map (·.size) = some 1 := by kernel_rfl

/-- errors.Is(x, x), x a pointer to an errors.errorString. -/
theorem is_same (a : Addr) (w : World) :
    Calls Tryd.prog 22 #[.iface 90 (.pointer (some a)), .iface 90 (.pointer (some a))] w fun e w' => e = .returned (.bool true) ∧ w' = w := by
  obtain ⟨i, hi, hcmp⟩ := Option.map_eq_some_iff.1 isComp
  obtain ⟨j, hj, hjs⟩ := Option.map_eq_some_iff.1 isSize
  have h8 := @run_callFunc_extern Tryd.prog 44 _ Extern.ReflectliteType.typeOf Tryd.func44 (by kernel_rfl) (by kernel_rfl) (by kernel_rfl) (by kernel_rfl)
  have h32 := @run_callFunc_extern Tryd.prog 75 _ (Extern.ReflectliteType.method cmpF) Tryd.func75 (by kernel_rfl) (by kernel_rfl) (by kernel_rfl) (by kernel_rfl)
  have tT := isTypeOf
  have cT := isComparable
  have mR := isMethodComparable
  have heq := run_eql_iface_ptr_same (P := Tryd.prog) w a Tryd.underlying43 Tryd.underlying90 hi hcmp hj
  go_enter Tryd.func22, Tryd.ntmps22
  go_wp2
  refine wp_loop_rounds 1 ?_
  rw [rounds_succ]
  go_wp2
  go_ret
  exact ⟨rfl, rfl⟩

/-- errors.Is(nil, x). -/
theorem is_nil (b : Addr) (w : World) :
    Calls Tryd.prog 22 #[.nilIface, .iface 90 (.pointer (some b))] w fun e w' => e = .returned (.bool false) ∧ w' = w := by
  have hn := run_eql_iface_nil_left (P := Tryd.prog) w 90 (.pointer (some b)) Tryd.underlying43
  go_enter Tryd.func22, Tryd.ntmps22
  go_wp2
  go_ret
  exact ⟨rfl, rfl⟩

end Go.Proofs.YtncgchlnaobalabDoor
