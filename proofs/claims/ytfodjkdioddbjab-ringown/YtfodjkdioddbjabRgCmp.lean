/-
  Two that wait are compared: a value with itself is equal. No conditions.
-/
import Derived.Test.YtfodjkdioddbjabRgCalls
namespace Go.Proofs.Ytfodjkdioddbjab.Rg
open Go.RowKit

theorem same_w3 (x : W3) (w : World) : (binOp .eql 27 (.agg #[.int .i64 x.s, .int .i64 x.g, .int .u64 x.t]) (.agg #[.int .i64 x.s, .int .i64 x.g, .int .u64 x.t])).run Try.prog w = .ok (.bool true) w := by
  go_simp
end Go.Proofs.Ytfodjkdioddbjab.Rg
