/-
  What the document's Name, Shape, Cost, Has, fits, Check, Encode and Decode answer. No conditions.
-/
import Derived.Test.YtcdlhfodeckleaaDoorWdTable
import Derived.Test.YtcdlhfodeckleaaDoorWdHas
namespace Go.Proofs.YtcdlhfodeckleaaDoor.Wd
open Go.RowKit

theorem rcost_no (o : Int) (h : o < 1 ∨ 58 < o) (w : World) : Calls Tryd.prog 27 #[.int .i64 o] w fun e w' => e = .returned (.tuple #[.int .i64 0, .int .i64 60]) ∧ Gr w w' := by
  have H := hid h
  clear h
  go_enter Tryd.func27, Tryd.ntmps27
  go_wp2_with fail
  refine (table_no o H.out _).mono ?_
  rintro e w1 ⟨rfl, g⟩
  have HG := hid g
  clear g
  go_wp2
  go_ret2
  exact ⟨rfl, HG.out.alloc _ _⟩
theorem rcost_yes (k : Nat) (h1 : 1 ≤ k) (h2 : k < 59) (w : World) : Calls Tryd.prog 27 #[.int .i64 (k : Nat)] w fun e w' => e = .returned (.tuple #[.int .i64 (co k), .int .i64 0]) ∧ Gr w w' := by
  go_enter Tryd.func27, Tryd.ntmps27
  go_wp2_with fail
  refine (table_all k h1 h2 _).mono ?_
  rintro e w1 ⟨rfl, g⟩
  unfold rowV
  have HG := hid g
  clear g
  go_wp2
  go_ret2
  exact ⟨rfl, HG.out.alloc _ _⟩

/-- may a register's number be? -/
def regB (n : Int) (h : Bool) : Bool := decide (n = 0 ∨ (h = true ∧ 0 < n ∧ n < 16))
theorem rfits_any (n : Int) (h : Bool) (w : World) : Calls Tryd.prog 58 #[.int .i64 n, .bool h] w fun e w' => e = .returned (.bool (regB n h)) ∧ w' = w := by
  by_cases h0 : n = 0
  · have e1 : regB n h = true := by unfold regB; simp [h0]
    rw [e1]
    clear e1
    subst h0
    go_enter Tryd.func58, Tryd.ntmps58
    go_wp2
    go_ret
    exact ⟨rfl, rfl⟩
  · have d0 : (n == 0) = false := by simpa using h0
    have d0' : decide (n = 0) = false := by simpa using h0
    cases h
    · have e1 : regB n false = false := by unfold regB; simp [h0]
      rw [e1]
      clear e1
      go_enter Tryd.func58, Tryd.ntmps58
      go_wp2
      go_ret
      exact ⟨rfl, rfl⟩
    · by_cases h1 : 0 < n
      · by_cases h2 : n < 16
        · have e1 : regB n true = true := by unfold regB; simp; omega
          rw [e1]
          clear e1
          go_enter Tryd.func58, Tryd.ntmps58
          go_wp2
          go_ret
          exact ⟨rfl, rfl⟩
        · have e1 : regB n true = false := by unfold regB; simp; omega
          rw [e1]
          clear e1
          go_enter Tryd.func58, Tryd.ntmps58
          go_wp2
          go_ret
          exact ⟨rfl, rfl⟩
      · have e1 : regB n true = false := by unfold regB; simp; omega
        rw [e1]
        clear e1
        go_enter Tryd.func58, Tryd.ntmps58
        go_wp2
        go_ret
        exact ⟨rfl, rfl⟩
end Go.Proofs.YtcdlhfodeckleaaDoor.Wd
