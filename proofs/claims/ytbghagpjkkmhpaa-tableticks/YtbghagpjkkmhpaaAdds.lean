/-
  What tick.Add answers, for any two numbers, and that the statements' question whether the program lives is answered yes. No conditions: the numbers are uint64.
-/
import Derived.Test.YtbghagpjkkmhpaaRows
import Derived.Test.YtbghagpjkkmhpaaPlain
import Derived.WalkKit
import Derived.WalkSpells
import Derived.OpenShut
namespace Go.Proofs.Ytbghagpjkkmhpaa.Tk
open Go.RowKit

theorem add_any (a b : Int) (ha : U a) (hb : U b) (w : World) :
    Calls Try.prog 57 #[.int .u64 a, .int .u64 b] w fun e w' => e = .returned (.tuple #[.int .u64 (addN a b), .int .i64 (addE a b)]) ∧ w' = w := by
  obtain ⟨a0, a1⟩ := ha
  obtain ⟨b0, b1⟩ := hb
  by_cases h : a + b ≤ 18446744073709551615
  · have e1 : addN a b = a + b := if_pos h
    have e2 : addE a b = 0 := if_pos h
    rw [e1, e2]
    clear e1 e2
    go_enter Try.func57, Try.ntmps57
    go_wp2
    go_ret2
    exact ⟨rfl, rfl⟩
  · have e1 : addN a b = 0 := if_neg h
    have e2 : addE a b = 10 := if_neg h
    rw [e1, e2]
    clear e1 e2
    go_enter Try.func57, Try.ntmps57
    go_wp2
    go_ret2
    exact ⟨rfl, rfl⟩

end Go.Proofs.Ytbghagpjkkmhpaa.Tk
