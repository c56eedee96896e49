/-
  What the document's Name, Shape, Cost, Has, fits, Check, Encode and Decode answer. No conditions.
-/
import Derived.Test.YtcdlhfodeckleabDoorWdTable
import Derived.Test.YtcdlhfodeckleabDoorWdHas
namespace Go.Proofs.YtcdlhfodeckleabDoor.Wd
open Go.RowKit

/-- may a register's number be? -/
def regB (n : Int) (h : Bool) : Bool := decide (n = 0 ∨ (h = true ∧ 0 < n ∧ n < 16))
theorem rfits_any (n : Int) (h : Bool) (w : World) : Calls Tryd.prog 27 #[.int .i64 n, .bool h] w fun e w' => e = .returned (.bool (regB n h)) ∧ w' = w := by
  by_cases h0 : n = 0
  · have e1 : regB n h = true := by unfold regB; simp [h0]
    rw [e1]
    clear e1
    subst h0
    go_enter Tryd.func27, Tryd.ntmps27
    go_wp2
    go_ret
    exact ⟨rfl, rfl⟩
  · have d0 : (n == 0) = false := by simpa using h0
    have d0' : decide (n = 0) = false := by simpa using h0
    cases h
    · have e1 : regB n false = false := by unfold regB; simp [h0]
      rw [e1]
      clear e1
      go_enter Tryd.func27, Tryd.ntmps27
      go_wp2
      go_ret
      exact ⟨rfl, rfl⟩
    · by_cases h1 : 0 < n
      · by_cases h2 : n < 16
        · have e1 : regB n true = true := by unfold regB; simp; omega
          rw [e1]
          clear e1
          go_enter Tryd.func27, Tryd.ntmps27
          go_wp2
          go_ret
          exact ⟨rfl, rfl⟩
        · have e1 : regB n true = false := by unfold regB; simp; omega
          rw [e1]
          clear e1
          go_enter Tryd.func27, Tryd.ntmps27
          go_wp2
          go_ret
          exact ⟨rfl, rfl⟩
      · have e1 : regB n true = false := by unfold regB; simp; omega
        rw [e1]
        clear e1
        go_enter Tryd.func27, Tryd.ntmps27
        go_wp2
        go_ret
        exact ⟨rfl, rfl⟩
end Go.Proofs.YtcdlhfodeckleabDoor.Wd
