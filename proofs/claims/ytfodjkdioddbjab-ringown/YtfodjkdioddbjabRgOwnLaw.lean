/-
  What RingOwn of the statements answers, at a state that loads and at one that doesn't.
-/
import Derived.Test.YtfodjkdioddbjabRgOwn
namespace Go.Proofs.Ytfodjkdioddbjab.Rg
open Go.RowKit
theorem own_law (hC : CallsAll) (sv : Value) (xs : List W3) (hs : Bool) (y : W3) (ov : Value) (os : List (Int × W3)) (w : World) (hx : Lst (fun _ => True) w sv xs) (hmax : xs.length ≤ 9223372036854775807) (ho : Ops w.heap.size w ov os) (hl : os.length ≤ 4611686018427387903) :
    Calls Try.prog 5 #[.agg #[sv, .bool hs, .int .i64 y.s, .int .i64 y.g, .int .u64 y.t], ov] w fun e w' => e = .returned (.bool true) ∧ Ch NoB w w' := by
  by_cases hE : ldE xs (nxo hs y) = 0
  · exact own_good hC _ sv xs hs y ov os w hx hmax hE ho hl
  · exact own_bad _ sv xs hs y ov w hx hmax _ rfl hE
end Go.Proofs.Ytfodjkdioddbjab.Rg
