/-
  Two facts that each step from a walk to a statement of layer 1 takes: the program has no knob of its own, and what reads as a uint64 is one. No conditions.
-/
import Derived.Test.YtikipkjanojgaabPlain
import Derived.Test.YtikipkjanojgaabRows
import Derived.ProofKit
import Derived.OpenShut
namespace Go.Proofs.Ytikipkjanojgaab.Tk
open Go.ChangeShapes Go.WideShapes Go.ChangeAt Go.RowKit

theorem own : ownKnob Try.prog.godebug = none := by kernel_rfl
theorem u_of_wf {x : Int} (h : (Lit.int .u64 x).wf = true) : U x := by
  simp [Lit.wf, IntKind.min, IntKind.max, IntKind.signed, IntKind.bits] at h
  exact ⟨by omega, by omega⟩
end Go.Proofs.Ytikipkjanojgaab.Tk
