/-
  What the document's Has answers. No conditions.
-/
import Derived.Test.YtcdlhfodeckleaaDoorWdDec
namespace Go.Proofs.YtcdlhfodeckleaaDoor.Wd
open Go.RowKit

/-- which fields a shape has -/
def hA : Nat → Bool
  | 0 => false
  | 1 => true
  | 2 => true
  | 3 => true
  | 4 => false
  | 5 => true
  | 6 => true
  | _ => false
def hB : Nat → Bool
  | 0 => false
  | 1 => false
  | 2 => true
  | 3 => true
  | 4 => false
  | 5 => false
  | 6 => false
  | _ => false
def hC : Nat → Bool
  | 0 => false
  | 1 => false
  | 2 => false
  | 3 => true
  | 4 => false
  | 5 => false
  | 6 => false
  | _ => false
theorem has_0 (w : World) : Calls Tryd.prog 57 #[.int .i64 0] w fun e w' => e = .returned (.tuple #[.bool false, .bool false, .bool false, .int .i64 0, .int .i64 0]) ∧ w' = w := by
  go_enter Tryd.func57, Tryd.ntmps57
  go_wp2
  exact bodyPost_ret (v := .tuple #[.bool false, .bool false, .bool false, .int .i64 0, .int .i64 0]) (by simp [results, Tryd.results57, go_sem]) rfl ⟨rfl, rfl⟩
theorem has_1 (w : World) : Calls Tryd.prog 57 #[.int .i64 1] w fun e w' => e = .returned (.tuple #[.bool true, .bool false, .bool false, .int .i64 0, .int .i64 0]) ∧ w' = w := by
  go_enter Tryd.func57, Tryd.ntmps57
  go_wp2
  exact bodyPost_ret (v := .tuple #[.bool true, .bool false, .bool false, .int .i64 0, .int .i64 0]) (by simp [results, Tryd.results57, go_sem]) rfl ⟨rfl, rfl⟩
theorem has_2 (w : World) : Calls Tryd.prog 57 #[.int .i64 2] w fun e w' => e = .returned (.tuple #[.bool true, .bool true, .bool false, .int .i64 0, .int .i64 0]) ∧ w' = w := by
  go_enter Tryd.func57, Tryd.ntmps57
  go_wp2
  exact bodyPost_ret (v := .tuple #[.bool true, .bool true, .bool false, .int .i64 0, .int .i64 0]) (by simp [results, Tryd.results57, go_sem]) rfl ⟨rfl, rfl⟩
theorem has_3 (w : World) : Calls Tryd.prog 57 #[.int .i64 3] w fun e w' => e = .returned (.tuple #[.bool true, .bool true, .bool true, .int .i64 0, .int .i64 0]) ∧ w' = w := by
  go_enter Tryd.func57, Tryd.ntmps57
  go_wp2
  exact bodyPost_ret (v := .tuple #[.bool true, .bool true, .bool true, .int .i64 0, .int .i64 0]) (by simp [results, Tryd.results57, go_sem]) rfl ⟨rfl, rfl⟩
theorem has_4 (w : World) : Calls Tryd.prog 57 #[.int .i64 4] w fun e w' => e = .returned (.tuple #[.bool false, .bool false, .bool false, .int .i64 0, .int .i64 65535]) ∧ w' = w := by
  go_enter Tryd.func57, Tryd.ntmps57
  go_wp2
  exact bodyPost_ret (v := .tuple #[.bool false, .bool false, .bool false, .int .i64 0, .int .i64 65535]) (by simp [results, Tryd.results57, go_sem]) rfl ⟨rfl, rfl⟩
theorem has_5 (w : World) : Calls Tryd.prog 57 #[.int .i64 5] w fun e w' => e = .returned (.tuple #[.bool true, .bool false, .bool false, .int .i64 0, .int .i64 65535]) ∧ w' = w := by
  go_enter Tryd.func57, Tryd.ntmps57
  go_wp2
  exact bodyPost_ret (v := .tuple #[.bool true, .bool false, .bool false, .int .i64 0, .int .i64 65535]) (by simp [results, Tryd.results57, go_sem]) rfl ⟨rfl, rfl⟩
theorem has_6 (w : World) : Calls Tryd.prog 57 #[.int .i64 6] w fun e w' => e = .returned (.tuple #[.bool true, .bool false, .bool false, .int .i64 (-32768), .int .i64 32767]) ∧ w' = w := by
  go_enter Tryd.func57, Tryd.ntmps57
  go_wp2
  exact bodyPost_ret (v := .tuple #[.bool true, .bool false, .bool false, .int .i64 (-32768), .int .i64 32767]) (by simp [results, Tryd.results57, go_sem]) rfl ⟨rfl, rfl⟩
theorem has_all : ∀ s, s < 7 → ∀ w : World, Calls Tryd.prog 57 #[.int .i64 (s : Nat)] w fun e w' => e = .returned (.tuple #[.bool (hA s), .bool (hB s), .bool (hC s), .int .i64 (fl s), .int .i64 (fm s)]) ∧ w' = w :=
  shapes_all (P := fun s => ∀ w : World, Calls Tryd.prog 57 #[.int .i64 (s : Nat)] w fun e w' => e = .returned (.tuple #[.bool (hA s), .bool (hB s), .bool (hC s), .int .i64 (fl s), .int .i64 (fm s)]) ∧ w' = w) has_0 has_1 has_2 has_3 has_4 has_5 has_6
end Go.Proofs.YtcdlhfodeckleaaDoor.Wd
