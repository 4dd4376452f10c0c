import Derived.JoinedOf
import Derived.ProofKit
import Derived.Test.YtgponahmkjohiabGreatDoorRows
namespace Go.Proofs.YtgponahmkjohiabGreatDoor
set_option maxRecDepth 100000
theorem words_one (w r : List Char) (h : w.all (· != Char.ofNat (nat_lit 32)) = true) : wordsSigns (w ++ Char.ofNat (nat_lit 32) :: r) = w :: wordsSigns r := by
  induction w with
  | nil => rfl
  | cons c w ih =>
    simp only [List.all_cons, Bool.and_eq_true, bne_iff_ne, ne_eq] at h
    have e : wordsSigns (w ++ Char.ofNat (nat_lit 32) :: r) = w :: wordsSigns r := ih h.2
    rw [List.cons_append, wordsSigns.eq_3 _ _ h.1, e]
/-- The program's first words, as a list of characters. -/
def ioL : {l : List Char // Tryz.prog.initOrder = String.ofList l} := ⟨_, rfl⟩
theorem io_list : Tryz.prog.initOrder.toList = ioL.1 := (congrArg String.toList ioL.2).trans String.toList_ofList
def ioA : List Char := ioL.1.take 7
def ioB : List Char := (ioL.1.drop 8).take 64
def ioC : List Char := (ioL.1.drop 73).take 3
def ioR : List Char := ioL.1.drop 77
theorem io_parts : ioL.1 = ioA ++ Char.ofNat (nat_lit 32) :: (ioB ++ Char.ofNat (nat_lit 32) :: (ioC ++ Char.ofNat (nat_lit 32) :: ioR)) := by kernel_rfl
theorem io_words : wordsSigns Tryz.prog.initOrder.toList = ioA :: ioB :: ioC :: wordsSigns ioR := by
  rw [io_list, io_parts, words_one _ _ (by kernel_rfl), words_one _ _ (by kernel_rfl), words_one _ _ (by kernel_rfl)]
theorem io_cut : ioC = "cut".toList := by kernel_rfl
theorem io_behind : behindMainWord (wordsSigns Tryz.prog.initOrder.toList) = "cut".toList :: wordsSigns ioR := by
  rw [io_words]
  exact (show ∀ X, behindMainWord (ioA :: ioB :: ioC :: X) = "cut".toList :: X from fun X => by kernel_rfl) _
theorem strip_cut (X : List (List Char)) : stripLifts liftWords ("cut".toList :: X) = ([], "cut".toList :: X) := by kernel_rfl
theorem may_enter_cut {P : Program} {X : List (List Char)} (h : behindMainWord (wordsSigns P.initOrder.toList) = "cut".toList :: X) (h1 : P.laysLater = false) (h2 : P.bearsReflect = false) (h3 : P.doorFits [] = true) : P.mayEnter = true := by
  unfold Program.mayEnter
  rw [h]
  simp only [strip_cut, h1, h2, h3, List.head?_cons]
  have e : ("cut".toList == "gc".toList) = false := by kernel_rfl
  have e2 : ("cut".toList == "spec".toList) = false := by kernel_rfl
  have e3 : ("cut".toList == "carried".toList) = false := by kernel_rfl
  have e4 : (some "cut".toList == some "cut".toList) = true := by kernel_rfl
  simp only [e, e2, e3, e4, Bool.or_self, Bool.false_and, Bool.false_or, Bool.not_false, Bool.or_true, Bool.true_and, Bool.and_true]
  decide +kernel
theorem lifts_final_cut {P : Program} {X : List (List Char)} (h : behindMainWord (wordsSigns P.initOrder.toList) = "cut".toList :: X) : P.liftsFinal = false := by
  unfold Program.liftsFinal Program.headLifts
  rw [h]
  simp only [strip_cut, List.head?_cons]
  simp
theorem make_cut {P : Program} {X : List (List Char)} (h : behindMainWord (wordsSigns P.initOrder.toList) = "cut".toList :: X) : P.make = some .cut := by
  unfold Program.make
  rw [h]
  have e : ("cut".toList == "gc".toList) = false := by kernel_rfl
  have e2 : ("cut".toList == "spec".toList) = false := by kernel_rfl
  have e4 : ("cut".toList == "cut".toList) = true := by kernel_rfl
  simp only [e, e2, e4, Bool.or_self, Bool.true_or, if_true, Bool.false_eq_true, if_false]
theorem may_enter : Tryz.prog.mayEnter = true := may_enter_cut io_behind (by kernel_rfl) (by kernel_rfl) (by kernel_rfl)
theorem lifts_final : Tryz.prog.liftsFinal = false := lifts_final_cut io_behind
theorem make_is : Tryz.prog.make = some .cut := make_cut io_behind
end Go.Proofs.YtgponahmkjohiabGreatDoor
