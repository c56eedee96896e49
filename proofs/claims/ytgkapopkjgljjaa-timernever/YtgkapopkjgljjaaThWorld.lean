/-
  The words in which the walks of the heap speak of memory: what a call may have turned, a node. No conditions.
-/
import Derived.Test.YtgkapopkjgljjaaGnWorld
import Derived.WalkKit
import Derived.WalkSpells
import Derived.WalkSmall
import Derived.RowKit3
import Derived.WalkLawsBesides
import Derived.Deep.QuietTactic
import Derived.BigQuiet
import Derived.BigRegion
import Derived.Deep.RegionHeld3
import Derived.Deep.DrawnRows
import Derived.Deep.AppendLies
namespace Go.Proofs.Ytgkapopkjgljjaa.Hp
open Go.RowKit Wd

/-- a node: when it is due, its number, its value -/
structure W3 where
  w : Int
  n : Int
  v : Int
def W3.zero : W3 := ⟨0, 0, 0⟩
/-- its value -/
def W3.val (x : W3) : Value := .agg #[.int .u64 x.w, .int .i64 x.n, .int .i64 x.v]
/-- its three cells -/
def W3.row (x : W3) : List Value := [.int .u64 x.w, .int .i64 x.n, .int .i64 x.v]

end Go.Proofs.Ytgkapopkjgljjaa.Hp
