/-
  The box of a shape, and a call in words. No conditions.
-/
import Derived.Test.YtnpbehcfbceclaaPoTwo
namespace Go.Proofs.Ytnpbehcfbceclaa.Lt
open Go.RowKit Wd

/-- the box of a shape -/
structure Bx (b : Nat) (q : Bool) (c : Int) (W : World) : Prop where
  b : W.heap[b]? = some (.cells #[.bool q, .int .i64 c] 23 (0, 0))
theorem Bx.gr {b : Nat} {q : Bool} {c : Int} {W W' : World} (h : Bx b q c W) (g : Gr W W') : Bx b q c W' := ⟨gr_blk h.b g⟩
/-- a call: its kind, its value -/
structure Ac where
  k : Int
  v : Int
def eC (x : Ac) : List Value := [.int .i64 x.k, .int .i64 x.v]
theorem eC_len (x : Ac) : (eC x).length = 2 := rfl
end Go.Proofs.Ytnpbehcfbceclaa.Lt
