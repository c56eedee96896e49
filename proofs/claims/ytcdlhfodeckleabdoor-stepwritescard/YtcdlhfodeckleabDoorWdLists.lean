/-
  Lists of instructions and of words, as the walks of layer 6 see them. No conditions.
-/
import Derived.Test.YtcdlhfodeckleabDoorWdDec
import Derived.Deep.LoopGhost
namespace Go.Proofs.YtcdlhfodeckleabDoor.Wd
open Go.RowKit

/-- n instructions, one behind the other -/
def InL (w : World) (v : Value) (n : Nat) : Prop := ∃ ao cap, v = .slice ao n cap ∧ n ≤ 9223372036854775807 ∧ (n = 0 ∨ ∃ g p, ao = some ⟨g, p, none⟩ ∧ g < w.heap.size ∧ ∀ i, i < n → ∃ o a b c m : Int,
  w.cell? ⟨g, p + i * 5, none⟩ = some (.int .i64 o) ∧ w.cell? ⟨g, p + i * 5 + 1, none⟩ = some (.int .i64 a) ∧ w.cell? ⟨g, p + i * 5 + 2, none⟩ = some (.int .i64 b) ∧ w.cell? ⟨g, p + i * 5 + 3, none⟩ = some (.int .i64 c) ∧ w.cell? ⟨g, p + i * 5 + 4, none⟩ = some (.int .i64 m))
/-- n words, one behind the other -/
def UL (w : World) (v : Value) (n : Nat) : Prop := ∃ ao cap, v = .slice ao n cap ∧ n ≤ 9223372036854775807 ∧ (n = 0 ∨ ∃ g p, ao = some ⟨g, p, none⟩ ∧ g < w.heap.size ∧ ∀ i, i < n → ∃ x : Int, w.cell? ⟨g, p + i, none⟩ = some (.int .u32 x) ∧ 0 ≤ x ∧ x < 4294967296)
end Go.Proofs.YtcdlhfodeckleabDoor.Wd
