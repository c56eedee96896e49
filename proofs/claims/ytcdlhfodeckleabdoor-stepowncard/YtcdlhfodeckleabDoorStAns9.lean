/-
  StepAnswers, walked. Condition: the tables lie where they lie.
-/
import Derived.Test.YtcdlhfodeckleabDoorStAnsP
import Derived.Test.YtcdlhfodeckleabDoorStAnsR
import Derived.Test.YtcdlhfodeckleabDoorStSame
namespace Go.Proofs.YtcdlhfodeckleabDoor.Lt
open Go.RowKit Wd

theorem pans_any (P : Nat → Prop) (w : World) (pc : Int) (r : List Int) (hr : r.length = 16) (ao : Option Addr) (n cap : Nat) (ks : List Int) (hk : Ls eI P w (.slice ao n cap) ks) (hn : n ≤ 17592186044416) (o a b c m v k : Int) :
    Calls Tryd.prog 11 #[.agg (cC pc r (.slice ao n cap)), .agg #[.int .i64 o, .int .i64 a, .int .i64 b, .int .i64 c, .int .i64 m], .int .i64 v, .int .i64 k] w (CxR w pc (ans o a b c v k r) ks) := by
  unfold ans
  by_cases h1 : C1 o
  · rw [if_pos h1]; exact pans_1 P w pc r hr ao n cap ks hk hn o a b c m v k h1
  · rw [if_neg h1]
    by_cases h2 : C2 o
    · rw [if_pos h2]; exact pans_2 P w pc r hr ao n cap ks hk hn o a b c m v k h2
    · rw [if_neg h2]
      by_cases h3 : o = 53
      · rw [if_pos h3]; exact pans_3 P w pc r hr ao n cap ks hk hn o a b c m v k h3
      · rw [if_neg h3]; exact pans_0 P w pc r hr ao n cap ks hk hn o a b c m v k ⟨h1, h2, h3⟩
theorem y7_cells {w : World} {X : Nat} {a b c d e f g : Value} {T : TypeId} (h : w.heap[X]? = some (.cells #[a, b, c, d, e, f, g] T (0, 0))) : w.cell? ⟨X, 0, none⟩ = some a ∧ w.cell? ⟨X, 1, none⟩ = some b ∧ w.cell? ⟨X, 2, none⟩ = some c ∧ w.cell? ⟨X, 3, none⟩ = some d ∧ w.cell? ⟨X, 4, none⟩ = some e ∧ w.cell? ⟨X, 5, none⟩ = some f ∧ w.cell? ⟨X, 6, none⟩ = some g ∧ X < w.heap.size :=
  ⟨(cell_of h 0).trans rfl, (cell_of h 1).trans rfl, (cell_of h 2).trans rfl, (cell_of h 3).trans rfl, (cell_of h 4).trans rfl, (cell_of h 5).trans rfl, (cell_of h 6).trans rfl, lt_of_block h⟩
end Go.Proofs.YtcdlhfodeckleabDoor.Lt
