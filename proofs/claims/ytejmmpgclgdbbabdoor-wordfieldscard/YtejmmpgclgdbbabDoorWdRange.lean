/-
  The ranges of numbers that are handed in. No conditions.
-/
import Derived.Test.YtejmmpgclgdbbabDoorWdFrame
namespace Go.Proofs.YtejmmpgclgdbbabDoor.Wd
open Go.RowKit

theorem rng_U {x : Int} (h : (Lit.int .u32 x).wf = true) : 0 ≤ x ∧ x < 4294967296 := by
  simp [Lit.wf, IntKind.min, IntKind.max, IntKind.signed, IntKind.bits] at h
  omega
theorem rng_B {x : Int} (h : (Lit.int .u8 x).wf = true) : 0 ≤ x ∧ x < 256 := by
  simp [Lit.wf, IntKind.min, IntKind.max, IntKind.signed, IntKind.bits] at h
  omega
end Go.Proofs.YtejmmpgclgdbbabDoor.Wd
