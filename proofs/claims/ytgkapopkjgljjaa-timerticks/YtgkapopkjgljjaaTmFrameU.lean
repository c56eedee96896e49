/-
  What a number of 64 bits without a sign that is handed in is. No conditions.
-/
import Derived.Test.YtgkapopkjgljjaaGnFrame
namespace Go.Proofs.Ytgkapopkjgljjaa.Lt
open Go.ChangeShapes Go.WideShapes Go.ChangeAt Go.RowKit Go.Deep Go.Joins Wd

theorem wf_u64c {n : Int} (h : (Lit.int .u64 n).wf = true) : 0 ≤ n ∧ n < 18446744073709551616 := by
  simp only [Lit.wf, IntKind.min, IntKind.max, IntKind.signed, IntKind.bits, Bool.and_eq_true] at h
  simp at h
  omega
end Go.Proofs.Ytgkapopkjgljjaa.Lt
