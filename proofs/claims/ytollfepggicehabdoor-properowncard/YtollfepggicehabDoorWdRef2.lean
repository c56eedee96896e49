/-
  What the document's Check and Encode answer. No conditions.
-/
import Derived.Test.YtollfepggicehabDoorWdRef
namespace Go.Proofs.YtollfepggicehabDoor.Wd
open Go.RowKit

theorem fit_reg (s : Nat) (hs : s < 7) (a b c m : Int) : fit s a b c m = (regB a (hA s) && regB b (hB s) && regB c (hC s) && decide (fl s ≤ m) && decide (m ≤ fm s)) := by
  have e : ∀ n : Int, regB n false = decide (0 ≤ n ∧ n ≤ 0) := fun n => by unfold regB; apply decide_eq_decide.2; simp; omega
  have e' : ∀ n : Int, regB n true = decide (0 ≤ n ∧ n ≤ 15) := fun n => by unfold regB; apply decide_eq_decide.2; simp; omega
  match s, hs with
  | 0, _ => simp only [fit, fitB, fa, fb, fc, fl, fm, hA, hB, hC, e, Bool.decide_and, Bool.and_assoc]
  | 1, _ => simp only [fit, fitB, fa, fb, fc, fl, fm, hA, hB, hC, e, e', Bool.decide_and, Bool.and_assoc]
  | 2, _ => simp only [fit, fitB, fa, fb, fc, fl, fm, hA, hB, hC, e, e', Bool.decide_and, Bool.and_assoc]
  | 3, _ => simp only [fit, fitB, fa, fb, fc, fl, fm, hA, hB, hC, e', Bool.decide_and, Bool.and_assoc]
  | 4, _ => simp only [fit, fitB, fa, fb, fc, fl, fm, hA, hB, hC, e, Bool.decide_and, Bool.and_assoc]
  | 5, _ => simp only [fit, fitB, fa, fb, fc, fl, fm, hA, hB, hC, e, e', Bool.decide_and, Bool.and_assoc]
  | 6, _ => simp only [fit, fitB, fa, fb, fc, fl, fm, hA, hB, hC, e, e', Bool.decide_and, Bool.and_assoc]

end Go.Proofs.YtollfepggicehabDoor.Wd
