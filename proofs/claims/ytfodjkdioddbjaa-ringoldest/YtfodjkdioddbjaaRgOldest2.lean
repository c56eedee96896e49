/-
  The statement's walk: RingOldest answers true at any state. Condition: the state's list is there.
-/
import Derived.Test.YtfodjkdioddbjaaRgOldest
namespace Go.Proofs.Ytfodjkdioddbjaa.Rg
open Go.RowKit

theorem oldest_law (sv : Value) (xs : List W3) (hs : Bool) (y : W3) (w : World) (hx : Lst (fun _ => True) w sv xs) (hmax : xs.length ≤ 9223372036854775807) :
    Calls Try.prog 7 #[.agg #[sv, .bool hs, .int .i64 y.s, .int .i64 y.g, .int .u64 y.t]] w fun e w' => e = .returned (.bool true) ∧ Ch NoB w w' := by
  by_cases h : ldE xs (nxo hs y) = 0
  · exact oldest_good _ sv xs hs y w hx hmax h
  · exact oldest_bad _ sv xs hs y w hx hmax _ rfl h
end Go.Proofs.Ytfodjkdioddbjaa.Rg
