/-
  What the document's table answers: the row of each operation, and none of what is no operation. No conditions.
-/
import Derived.Test.YtcdlhfodeckleaaDoorWdWorld
namespace Go.Proofs.YtcdlhfodeckleaaDoor.Wd
open Go.RowKit

/-- a row of the document's table -/
def rowV (k : Nat) : Value := .agg #[.string (nm k), .int .i64 (sh k : Nat), .int .i64 (co k), .string (rd k), .string (wr k)]

set_option maxRecDepth 20000 in
theorem table_1 (w : World) : Calls Tryd.prog 50 #[.int .i64 1] w fun e w' => e = .returned (.tuple #[.agg #[.string { data := #[110, 111, 112] }, .int .i64 0, .int .i64 1, .string { data := #[] }, .string { data := #[] }], .bool true]) ∧ w' = w.alloc (.cells #[.string { data := #[110, 111, 112] }, .int .i64 0, .int .i64 1, .string { data := #[] }, .string { data := #[] }] 101) := by
  go_enter Tryd.func50, Tryd.ntmps50
  go_wp2
  exact bodyPost_ret (v := .tuple #[.agg #[.string { data := #[110, 111, 112] }, .int .i64 0, .int .i64 1, .string { data := #[] }, .string { data := #[] }], .bool true]) (by simp [results, Tryd.results50, go_sem]) rfl ⟨rfl, rfl⟩
set_option maxRecDepth 20000 in
theorem table_2 (w : World) : Calls Tryd.prog 50 #[.int .i64 2] w fun e w' => e = .returned (.tuple #[.agg #[.string { data := #[115, 101, 116] }, .int .i64 6, .int .i64 1, .string { data := #[] }, .string { data := #[97] }], .bool true]) ∧ w' = w.alloc (.cells #[.string { data := #[115, 101, 116] }, .int .i64 6, .int .i64 1, .string { data := #[] }, .string { data := #[97] }] 101) := by
  go_enter Tryd.func50, Tryd.ntmps50
  go_wp2
  exact bodyPost_ret (v := .tuple #[.agg #[.string { data := #[115, 101, 116] }, .int .i64 6, .int .i64 1, .string { data := #[] }, .string { data := #[97] }], .bool true]) (by simp [results, Tryd.results50, go_sem]) rfl ⟨rfl, rfl⟩
set_option maxRecDepth 20000 in
theorem table_3 (w : World) : Calls Tryd.prog 50 #[.int .i64 3] w fun e w' => e = .returned (.tuple #[.agg #[.string { data := #[104, 105, 103, 104] }, .int .i64 5, .int .i64 1, .string { data := #[97] }, .string { data := #[97] }], .bool true]) ∧ w' = w.alloc (.cells #[.string { data := #[104, 105, 103, 104] }, .int .i64 5, .int .i64 1, .string { data := #[97] }, .string { data := #[97] }] 101) := by
  go_enter Tryd.func50, Tryd.ntmps50
  go_wp2
  exact bodyPost_ret (v := .tuple #[.agg #[.string { data := #[104, 105, 103, 104] }, .int .i64 5, .int .i64 1, .string { data := #[97] }, .string { data := #[97] }], .bool true]) (by simp [results, Tryd.results50, go_sem]) rfl ⟨rfl, rfl⟩
set_option maxRecDepth 20000 in
theorem table_4 (w : World) : Calls Tryd.prog 50 #[.int .i64 4] w fun e w' => e = .returned (.tuple #[.agg #[.string { data := #[109, 111, 118, 101] }, .int .i64 2, .int .i64 1, .string { data := #[98] }, .string { data := #[97] }], .bool true]) ∧ w' = w.alloc (.cells #[.string { data := #[109, 111, 118, 101] }, .int .i64 2, .int .i64 1, .string { data := #[98] }, .string { data := #[97] }] 101) := by
  go_enter Tryd.func50, Tryd.ntmps50
  go_wp2
  exact bodyPost_ret (v := .tuple #[.agg #[.string { data := #[109, 111, 118, 101] }, .int .i64 2, .int .i64 1, .string { data := #[98] }, .string { data := #[97] }], .bool true]) (by simp [results, Tryd.results50, go_sem]) rfl ⟨rfl, rfl⟩
set_option maxRecDepth 20000 in
theorem table_5 (w : World) : Calls Tryd.prog 50 #[.int .i64 5] w fun e w' => e = .returned (.tuple #[.agg #[.string { data := #[97, 100, 100] }, .int .i64 3, .int .i64 1, .string { data := #[98, 99] }, .string { data := #[97] }], .bool true]) ∧ w' = w.alloc (.cells #[.string { data := #[97, 100, 100] }, .int .i64 3, .int .i64 1, .string { data := #[98, 99] }, .string { data := #[97] }] 101) := by
  go_enter Tryd.func50, Tryd.ntmps50
  go_wp2
  exact bodyPost_ret (v := .tuple #[.agg #[.string { data := #[97, 100, 100] }, .int .i64 3, .int .i64 1, .string { data := #[98, 99] }, .string { data := #[97] }], .bool true]) (by simp [results, Tryd.results50, go_sem]) rfl ⟨rfl, rfl⟩
set_option maxRecDepth 20000 in
theorem table_6 (w : World) : Calls Tryd.prog 50 #[.int .i64 6] w fun e w' => e = .returned (.tuple #[.agg #[.string { data := #[115, 117, 98] }, .int .i64 3, .int .i64 1, .string { data := #[98, 99] }, .string { data := #[97] }], .bool true]) ∧ w' = w.alloc (.cells #[.string { data := #[115, 117, 98] }, .int .i64 3, .int .i64 1, .string { data := #[98, 99] }, .string { data := #[97] }] 101) := by
  go_enter Tryd.func50, Tryd.ntmps50
  go_wp2
  exact bodyPost_ret (v := .tuple #[.agg #[.string { data := #[115, 117, 98] }, .int .i64 3, .int .i64 1, .string { data := #[98, 99] }, .string { data := #[97] }], .bool true]) (by simp [results, Tryd.results50, go_sem]) rfl ⟨rfl, rfl⟩
set_option maxRecDepth 20000 in
theorem table_7 (w : World) : Calls Tryd.prog 50 #[.int .i64 7] w fun e w' => e = .returned (.tuple #[.agg #[.string { data := #[109, 117, 108] }, .int .i64 3, .int .i64 3, .string { data := #[98, 99] }, .string { data := #[97] }], .bool true]) ∧ w' = w.alloc (.cells #[.string { data := #[109, 117, 108] }, .int .i64 3, .int .i64 3, .string { data := #[98, 99] }, .string { data := #[97] }] 101) := by
  go_enter Tryd.func50, Tryd.ntmps50
  go_wp2
  exact bodyPost_ret (v := .tuple #[.agg #[.string { data := #[109, 117, 108] }, .int .i64 3, .int .i64 3, .string { data := #[98, 99] }, .string { data := #[97] }], .bool true]) (by simp [results, Tryd.results50, go_sem]) rfl ⟨rfl, rfl⟩
set_option maxRecDepth 20000 in
theorem table_8 (w : World) : Calls Tryd.prog 50 #[.int .i64 8] w fun e w' => e = .returned (.tuple #[.agg #[.string { data := #[100, 105, 118] }, .int .i64 3, .int .i64 8, .string { data := #[98, 99] }, .string { data := #[97] }], .bool true]) ∧ w' = w.alloc (.cells #[.string { data := #[100, 105, 118] }, .int .i64 3, .int .i64 8, .string { data := #[98, 99] }, .string { data := #[97] }] 101) := by
  go_enter Tryd.func50, Tryd.ntmps50
  go_wp2
  exact bodyPost_ret (v := .tuple #[.agg #[.string { data := #[100, 105, 118] }, .int .i64 3, .int .i64 8, .string { data := #[98, 99] }, .string { data := #[97] }], .bool true]) (by simp [results, Tryd.results50, go_sem]) rfl ⟨rfl, rfl⟩
set_option maxRecDepth 20000 in
theorem table_9 (w : World) : Calls Tryd.prog 50 #[.int .i64 9] w fun e w' => e = .returned (.tuple #[.agg #[.string { data := #[114, 101, 109] }, .int .i64 3, .int .i64 8, .string { data := #[98, 99] }, .string { data := #[97] }], .bool true]) ∧ w' = w.alloc (.cells #[.string { data := #[114, 101, 109] }, .int .i64 3, .int .i64 8, .string { data := #[98, 99] }, .string { data := #[97] }] 101) := by
  go_enter Tryd.func50, Tryd.ntmps50
  go_wp2
  exact bodyPost_ret (v := .tuple #[.agg #[.string { data := #[114, 101, 109] }, .int .i64 3, .int .i64 8, .string { data := #[98, 99] }, .string { data := #[97] }], .bool true]) (by simp [results, Tryd.results50, go_sem]) rfl ⟨rfl, rfl⟩
set_option maxRecDepth 20000 in
theorem table_10 (w : World) : Calls Tryd.prog 50 #[.int .i64 10] w fun e w' => e = .returned (.tuple #[.agg #[.string { data := #[97, 110, 100] }, .int .i64 3, .int .i64 1, .string { data := #[98, 99] }, .string { data := #[97] }], .bool true]) ∧ w' = w.alloc (.cells #[.string { data := #[97, 110, 100] }, .int .i64 3, .int .i64 1, .string { data := #[98, 99] }, .string { data := #[97] }] 101) := by
  go_enter Tryd.func50, Tryd.ntmps50
  go_wp2
  exact bodyPost_ret (v := .tuple #[.agg #[.string { data := #[97, 110, 100] }, .int .i64 3, .int .i64 1, .string { data := #[98, 99] }, .string { data := #[97] }], .bool true]) (by simp [results, Tryd.results50, go_sem]) rfl ⟨rfl, rfl⟩
set_option maxRecDepth 20000 in
theorem table_11 (w : World) : Calls Tryd.prog 50 #[.int .i64 11] w fun e w' => e = .returned (.tuple #[.agg #[.string { data := #[111, 114] }, .int .i64 3, .int .i64 1, .string { data := #[98, 99] }, .string { data := #[97] }], .bool true]) ∧ w' = w.alloc (.cells #[.string { data := #[111, 114] }, .int .i64 3, .int .i64 1, .string { data := #[98, 99] }, .string { data := #[97] }] 101) := by
  go_enter Tryd.func50, Tryd.ntmps50
  go_wp2
  exact bodyPost_ret (v := .tuple #[.agg #[.string { data := #[111, 114] }, .int .i64 3, .int .i64 1, .string { data := #[98, 99] }, .string { data := #[97] }], .bool true]) (by simp [results, Tryd.results50, go_sem]) rfl ⟨rfl, rfl⟩
set_option maxRecDepth 20000 in
theorem table_12 (w : World) : Calls Tryd.prog 50 #[.int .i64 12] w fun e w' => e = .returned (.tuple #[.agg #[.string { data := #[120, 111, 114] }, .int .i64 3, .int .i64 1, .string { data := #[98, 99] }, .string { data := #[97] }], .bool true]) ∧ w' = w.alloc (.cells #[.string { data := #[120, 111, 114] }, .int .i64 3, .int .i64 1, .string { data := #[98, 99] }, .string { data := #[97] }] 101) := by
  go_enter Tryd.func50, Tryd.ntmps50
  go_wp2
  exact bodyPost_ret (v := .tuple #[.agg #[.string { data := #[120, 111, 114] }, .int .i64 3, .int .i64 1, .string { data := #[98, 99] }, .string { data := #[97] }], .bool true]) (by simp [results, Tryd.results50, go_sem]) rfl ⟨rfl, rfl⟩
set_option maxRecDepth 20000 in
theorem table_13 (w : World) : Calls Tryd.prog 50 #[.int .i64 13] w fun e w' => e = .returned (.tuple #[.agg #[.string { data := #[115, 104, 108] }, .int .i64 3, .int .i64 1, .string { data := #[98, 99] }, .string { data := #[97] }], .bool true]) ∧ w' = w.alloc (.cells #[.string { data := #[115, 104, 108] }, .int .i64 3, .int .i64 1, .string { data := #[98, 99] }, .string { data := #[97] }] 101) := by
  go_enter Tryd.func50, Tryd.ntmps50
  go_wp2
  exact bodyPost_ret (v := .tuple #[.agg #[.string { data := #[115, 104, 108] }, .int .i64 3, .int .i64 1, .string { data := #[98, 99] }, .string { data := #[97] }], .bool true]) (by simp [results, Tryd.results50, go_sem]) rfl ⟨rfl, rfl⟩
set_option maxRecDepth 20000 in
theorem table_14 (w : World) : Calls Tryd.prog 50 #[.int .i64 14] w fun e w' => e = .returned (.tuple #[.agg #[.string { data := #[115, 104, 114] }, .int .i64 3, .int .i64 1, .string { data := #[98, 99] }, .string { data := #[97] }], .bool true]) ∧ w' = w.alloc (.cells #[.string { data := #[115, 104, 114] }, .int .i64 3, .int .i64 1, .string { data := #[98, 99] }, .string { data := #[97] }] 101) := by
  go_enter Tryd.func50, Tryd.ntmps50
  go_wp2
  exact bodyPost_ret (v := .tuple #[.agg #[.string { data := #[115, 104, 114] }, .int .i64 3, .int .i64 1, .string { data := #[98, 99] }, .string { data := #[97] }], .bool true]) (by simp [results, Tryd.results50, go_sem]) rfl ⟨rfl, rfl⟩
set_option maxRecDepth 20000 in
theorem table_15 (w : World) : Calls Tryd.prog 50 #[.int .i64 15] w fun e w' => e = .returned (.tuple #[.agg #[.string { data := #[108, 101, 115, 115] }, .int .i64 3, .int .i64 1, .string { data := #[98, 99] }, .string { data := #[97] }], .bool true]) ∧ w' = w.alloc (.cells #[.string { data := #[108, 101, 115, 115] }, .int .i64 3, .int .i64 1, .string { data := #[98, 99] }, .string { data := #[97] }] 101) := by
  go_enter Tryd.func50, Tryd.ntmps50
  go_wp2
  exact bodyPost_ret (v := .tuple #[.agg #[.string { data := #[108, 101, 115, 115] }, .int .i64 3, .int .i64 1, .string { data := #[98, 99] }, .string { data := #[97] }], .bool true]) (by simp [results, Tryd.results50, go_sem]) rfl ⟨rfl, rfl⟩
set_option maxRecDepth 20000 in
theorem table_16 (w : World) : Calls Tryd.prog 50 #[.int .i64 16] w fun e w' => e = .returned (.tuple #[.agg #[.string { data := #[101, 113, 117, 97, 108] }, .int .i64 3, .int .i64 1, .string { data := #[98, 99] }, .string { data := #[97] }], .bool true]) ∧ w' = w.alloc (.cells #[.string { data := #[101, 113, 117, 97, 108] }, .int .i64 3, .int .i64 1, .string { data := #[98, 99] }, .string { data := #[97] }] 101) := by
  go_enter Tryd.func50, Tryd.ntmps50
  go_wp2
  exact bodyPost_ret (v := .tuple #[.agg #[.string { data := #[101, 113, 117, 97, 108] }, .int .i64 3, .int .i64 1, .string { data := #[98, 99] }, .string { data := #[97] }], .bool true]) (by simp [results, Tryd.results50, go_sem]) rfl ⟨rfl, rfl⟩
set_option maxRecDepth 20000 in
theorem table_17 (w : World) : Calls Tryd.prog 50 #[.int .i64 17] w fun e w' => e = .returned (.tuple #[.agg #[.string { data := #[106, 117, 109, 112] }, .int .i64 4, .int .i64 1, .string { data := #[] }, .string { data := #[] }], .bool true]) ∧ w' = w.alloc (.cells #[.string { data := #[106, 117, 109, 112] }, .int .i64 4, .int .i64 1, .string { data := #[] }, .string { data := #[] }] 101) := by
  go_enter Tryd.func50, Tryd.ntmps50
  go_wp2
  exact bodyPost_ret (v := .tuple #[.agg #[.string { data := #[106, 117, 109, 112] }, .int .i64 4, .int .i64 1, .string { data := #[] }, .string { data := #[] }], .bool true]) (by simp [results, Tryd.results50, go_sem]) rfl ⟨rfl, rfl⟩
set_option maxRecDepth 20000 in
theorem table_18 (w : World) : Calls Tryd.prog 50 #[.int .i64 18] w fun e w' => e = .returned (.tuple #[.agg #[.string { data := #[122, 101, 114, 111] }, .int .i64 5, .int .i64 1, .string { data := #[97] }, .string { data := #[] }], .bool true]) ∧ w' = w.alloc (.cells #[.string { data := #[122, 101, 114, 111] }, .int .i64 5, .int .i64 1, .string { data := #[97] }, .string { data := #[] }] 101) := by
  go_enter Tryd.func50, Tryd.ntmps50
  go_wp2
  exact bodyPost_ret (v := .tuple #[.agg #[.string { data := #[122, 101, 114, 111] }, .int .i64 5, .int .i64 1, .string { data := #[97] }, .string { data := #[] }], .bool true]) (by simp [results, Tryd.results50, go_sem]) rfl ⟨rfl, rfl⟩
set_option maxRecDepth 20000 in
theorem table_19 (w : World) : Calls Tryd.prog 50 #[.int .i64 19] w fun e w' => e = .returned (.tuple #[.agg #[.string { data := #[115, 111, 109, 101] }, .int .i64 5, .int .i64 1, .string { data := #[97] }, .string { data := #[] }], .bool true]) ∧ w' = w.alloc (.cells #[.string { data := #[115, 111, 109, 101] }, .int .i64 5, .int .i64 1, .string { data := #[97] }, .string { data := #[] }] 101) := by
  go_enter Tryd.func50, Tryd.ntmps50
  go_wp2
  exact bodyPost_ret (v := .tuple #[.agg #[.string { data := #[115, 111, 109, 101] }, .int .i64 5, .int .i64 1, .string { data := #[97] }, .string { data := #[] }], .bool true]) (by simp [results, Tryd.results50, go_sem]) rfl ⟨rfl, rfl⟩
set_option maxRecDepth 20000 in
theorem table_20 (w : World) : Calls Tryd.prog 50 #[.int .i64 20] w fun e w' => e = .returned (.tuple #[.agg #[.string { data := #[99, 97, 108, 108] }, .int .i64 4, .int .i64 2, .string { data := #[] }, .string { data := #[] }], .bool true]) ∧ w' = w.alloc (.cells #[.string { data := #[99, 97, 108, 108] }, .int .i64 4, .int .i64 2, .string { data := #[] }, .string { data := #[] }] 101) := by
  go_enter Tryd.func50, Tryd.ntmps50
  go_wp2
  exact bodyPost_ret (v := .tuple #[.agg #[.string { data := #[99, 97, 108, 108] }, .int .i64 4, .int .i64 2, .string { data := #[] }, .string { data := #[] }], .bool true]) (by simp [results, Tryd.results50, go_sem]) rfl ⟨rfl, rfl⟩
set_option maxRecDepth 20000 in
theorem table_21 (w : World) : Calls Tryd.prog 50 #[.int .i64 21] w fun e w' => e = .returned (.tuple #[.agg #[.string { data := #[114, 101, 116] }, .int .i64 0, .int .i64 2, .string { data := #[] }, .string { data := #[] }], .bool true]) ∧ w' = w.alloc (.cells #[.string { data := #[114, 101, 116] }, .int .i64 0, .int .i64 2, .string { data := #[] }, .string { data := #[] }] 101) := by
  go_enter Tryd.func50, Tryd.ntmps50
  go_wp2
  exact bodyPost_ret (v := .tuple #[.agg #[.string { data := #[114, 101, 116] }, .int .i64 0, .int .i64 2, .string { data := #[] }, .string { data := #[] }], .bool true]) (by simp [results, Tryd.results50, go_sem]) rfl ⟨rfl, rfl⟩
set_option maxRecDepth 20000 in
theorem table_22 (w : World) : Calls Tryd.prog 50 #[.int .i64 22] w fun e w' => e = .returned (.tuple #[.agg #[.string { data := #[115, 112, 97, 119, 110] }, .int .i64 5, .int .i64 4, .string { data := #[42] }, .string { data := #[97] }], .bool true]) ∧ w' = w.alloc (.cells #[.string { data := #[115, 112, 97, 119, 110] }, .int .i64 5, .int .i64 4, .string { data := #[42] }, .string { data := #[97] }] 101) := by
  go_enter Tryd.func50, Tryd.ntmps50
  go_wp2
  exact bodyPost_ret (v := .tuple #[.agg #[.string { data := #[115, 112, 97, 119, 110] }, .int .i64 5, .int .i64 4, .string { data := #[42] }, .string { data := #[97] }], .bool true]) (by simp [results, Tryd.results50, go_sem]) rfl ⟨rfl, rfl⟩
set_option maxRecDepth 20000 in
theorem table_23 (w : World) : Calls Tryd.prog 50 #[.int .i64 23] w fun e w' => e = .returned (.tuple #[.agg #[.string { data := #[121, 105, 101, 108, 100] }, .int .i64 0, .int .i64 1, .string { data := #[] }, .string { data := #[] }], .bool true]) ∧ w' = w.alloc (.cells #[.string { data := #[121, 105, 101, 108, 100] }, .int .i64 0, .int .i64 1, .string { data := #[] }, .string { data := #[] }] 101) := by
  go_enter Tryd.func50, Tryd.ntmps50
  go_wp2
  exact bodyPost_ret (v := .tuple #[.agg #[.string { data := #[121, 105, 101, 108, 100] }, .int .i64 0, .int .i64 1, .string { data := #[] }, .string { data := #[] }], .bool true]) (by simp [results, Tryd.results50, go_sem]) rfl ⟨rfl, rfl⟩
set_option maxRecDepth 20000 in
theorem table_24 (w : World) : Calls Tryd.prog 50 #[.int .i64 24] w fun e w' => e = .returned (.tuple #[.agg #[.string { data := #[101, 120, 105, 116] }, .int .i64 0, .int .i64 1, .string { data := #[] }, .string { data := #[] }], .bool true]) ∧ w' = w.alloc (.cells #[.string { data := #[101, 120, 105, 116] }, .int .i64 0, .int .i64 1, .string { data := #[] }, .string { data := #[] }] 101) := by
  go_enter Tryd.func50, Tryd.ntmps50
  go_wp2
  exact bodyPost_ret (v := .tuple #[.agg #[.string { data := #[101, 120, 105, 116] }, .int .i64 0, .int .i64 1, .string { data := #[] }, .string { data := #[] }], .bool true]) (by simp [results, Tryd.results50, go_sem]) rfl ⟨rfl, rfl⟩
set_option maxRecDepth 20000 in
theorem table_25 (w : World) : Calls Tryd.prog 50 #[.int .i64 25] w fun e w' => e = .returned (.tuple #[.agg #[.string { data := #[115, 101, 108, 102] }, .int .i64 1, .int .i64 1, .string { data := #[] }, .string { data := #[97] }], .bool true]) ∧ w' = w.alloc (.cells #[.string { data := #[115, 101, 108, 102] }, .int .i64 1, .int .i64 1, .string { data := #[] }, .string { data := #[97] }] 101) := by
  go_enter Tryd.func50, Tryd.ntmps50
  go_wp2
  exact bodyPost_ret (v := .tuple #[.agg #[.string { data := #[115, 101, 108, 102] }, .int .i64 1, .int .i64 1, .string { data := #[] }, .string { data := #[97] }], .bool true]) (by simp [results, Tryd.results50, go_sem]) rfl ⟨rfl, rfl⟩
set_option maxRecDepth 20000 in
theorem table_26 (w : World) : Calls Tryd.prog 50 #[.int .i64 26] w fun e w' => e = .returned (.tuple #[.agg #[.string { data := #[110, 111, 119] }, .int .i64 1, .int .i64 1, .string { data := #[] }, .string { data := #[97] }], .bool true]) ∧ w' = w.alloc (.cells #[.string { data := #[110, 111, 119] }, .int .i64 1, .int .i64 1, .string { data := #[] }, .string { data := #[97] }] 101) := by
  go_enter Tryd.func50, Tryd.ntmps50
  go_wp2
  exact bodyPost_ret (v := .tuple #[.agg #[.string { data := #[110, 111, 119] }, .int .i64 1, .int .i64 1, .string { data := #[] }, .string { data := #[97] }], .bool true]) (by simp [results, Tryd.results50, go_sem]) rfl ⟨rfl, rfl⟩
set_option maxRecDepth 20000 in
theorem table_27 (w : World) : Calls Tryd.prog 50 #[.int .i64 27] w fun e w' => e = .returned (.tuple #[.agg #[.string { data := #[115, 108, 101, 101, 112] }, .int .i64 1, .int .i64 1, .string { data := #[97] }, .string { data := #[] }], .bool true]) ∧ w' = w.alloc (.cells #[.string { data := #[115, 108, 101, 101, 112] }, .int .i64 1, .int .i64 1, .string { data := #[97] }, .string { data := #[] }] 101) := by
  go_enter Tryd.func50, Tryd.ntmps50
  go_wp2
  exact bodyPost_ret (v := .tuple #[.agg #[.string { data := #[115, 108, 101, 101, 112] }, .int .i64 1, .int .i64 1, .string { data := #[97] }, .string { data := #[] }], .bool true]) (by simp [results, Tryd.results50, go_sem]) rfl ⟨rfl, rfl⟩
set_option maxRecDepth 20000 in
theorem table_28 (w : World) : Calls Tryd.prog 50 #[.int .i64 28] w fun e w' => e = .returned (.tuple #[.agg #[.string { data := #[109, 97, 107, 101] }, .int .i64 2, .int .i64 4, .string { data := #[98] }, .string { data := #[97] }], .bool true]) ∧ w' = w.alloc (.cells #[.string { data := #[109, 97, 107, 101] }, .int .i64 2, .int .i64 4, .string { data := #[98] }, .string { data := #[97] }] 101) := by
  go_enter Tryd.func50, Tryd.ntmps50
  go_wp2
  exact bodyPost_ret (v := .tuple #[.agg #[.string { data := #[109, 97, 107, 101] }, .int .i64 2, .int .i64 4, .string { data := #[98] }, .string { data := #[97] }], .bool true]) (by simp [results, Tryd.results50, go_sem]) rfl ⟨rfl, rfl⟩
set_option maxRecDepth 20000 in
theorem table_29 (w : World) : Calls Tryd.prog 50 #[.int .i64 29] w fun e w' => e = .returned (.tuple #[.agg #[.string { data := #[115, 101, 110, 100] }, .int .i64 2, .int .i64 2, .string { data := #[97, 98] }, .string { data := #[] }], .bool true]) ∧ w' = w.alloc (.cells #[.string { data := #[115, 101, 110, 100] }, .int .i64 2, .int .i64 2, .string { data := #[97, 98] }, .string { data := #[] }] 101) := by
  go_enter Tryd.func50, Tryd.ntmps50
  go_wp2
  exact bodyPost_ret (v := .tuple #[.agg #[.string { data := #[115, 101, 110, 100] }, .int .i64 2, .int .i64 2, .string { data := #[97, 98] }, .string { data := #[] }], .bool true]) (by simp [results, Tryd.results50, go_sem]) rfl ⟨rfl, rfl⟩
set_option maxRecDepth 20000 in
theorem table_30 (w : World) : Calls Tryd.prog 50 #[.int .i64 30] w fun e w' => e = .returned (.tuple #[.agg #[.string { data := #[114, 101, 99, 118] }, .int .i64 3, .int .i64 2, .string { data := #[99] }, .string { data := #[97, 98] }], .bool true]) ∧ w' = (w.alloc (.cells #[.string { data := #[114, 101, 99, 118] }, .int .i64 3, .int .i64 2, .string { data := #[99] }, .string { data := #[97, 98] }] 101)).alloc (.cells #[.string { data := #[114, 101, 99, 118] }, .int .i64 3, .int .i64 2, .string { data := #[99] }, .string { data := #[97, 98] }] 101) := by
  go_enter Tryd.func50, Tryd.ntmps50
  go_wp2
  exact bodyPost_ret (v := .tuple #[.agg #[.string { data := #[114, 101, 99, 118] }, .int .i64 3, .int .i64 2, .string { data := #[99] }, .string { data := #[97, 98] }], .bool true]) (by simp [results, Tryd.results50, go_sem]) rfl ⟨rfl, rfl⟩
set_option maxRecDepth 20000 in
theorem table_31 (w : World) : Calls Tryd.prog 50 #[.int .i64 31] w fun e w' => e = .returned (.tuple #[.agg #[.string { data := #[99, 108, 111, 115, 101] }, .int .i64 1, .int .i64 2, .string { data := #[97] }, .string { data := #[] }], .bool true]) ∧ w' = (w.alloc (.cells #[.string { data := #[99, 108, 111, 115, 101] }, .int .i64 1, .int .i64 2, .string { data := #[97] }, .string { data := #[] }] 101)).alloc (.cells #[.string { data := #[99, 108, 111, 115, 101] }, .int .i64 1, .int .i64 2, .string { data := #[97] }, .string { data := #[] }] 101) := by
  go_enter Tryd.func50, Tryd.ntmps50
  go_wp2
  exact bodyPost_ret (v := .tuple #[.agg #[.string { data := #[99, 108, 111, 115, 101] }, .int .i64 1, .int .i64 2, .string { data := #[97] }, .string { data := #[] }], .bool true]) (by simp [results, Tryd.results50, go_sem]) rfl ⟨rfl, rfl⟩
set_option maxRecDepth 20000 in
theorem table_32 (w : World) : Calls Tryd.prog 50 #[.int .i64 32] w fun e w' => e = .returned (.tuple #[.agg #[.string { data := #[108, 101, 110] }, .int .i64 2, .int .i64 1, .string { data := #[98] }, .string { data := #[97] }], .bool true]) ∧ w' = (w.alloc (.cells #[.string { data := #[108, 101, 110] }, .int .i64 2, .int .i64 1, .string { data := #[98] }, .string { data := #[97] }] 101)).alloc (.cells #[.string { data := #[108, 101, 110] }, .int .i64 2, .int .i64 1, .string { data := #[98] }, .string { data := #[97] }] 101) := by
  go_enter Tryd.func50, Tryd.ntmps50
  go_wp2
  exact bodyPost_ret (v := .tuple #[.agg #[.string { data := #[108, 101, 110] }, .int .i64 2, .int .i64 1, .string { data := #[98] }, .string { data := #[97] }], .bool true]) (by simp [results, Tryd.results50, go_sem]) rfl ⟨rfl, rfl⟩
set_option maxRecDepth 20000 in
theorem table_33 (w : World) : Calls Tryd.prog 50 #[.int .i64 33] w fun e w' => e = .returned (.tuple #[.agg #[.string { data := #[99, 97, 112] }, .int .i64 2, .int .i64 1, .string { data := #[98] }, .string { data := #[97] }], .bool true]) ∧ w' = (w.alloc (.cells #[.string { data := #[99, 97, 112] }, .int .i64 2, .int .i64 1, .string { data := #[98] }, .string { data := #[97] }] 101)).alloc (.cells #[.string { data := #[99, 97, 112] }, .int .i64 2, .int .i64 1, .string { data := #[98] }, .string { data := #[97] }] 101) := by
  go_enter Tryd.func50, Tryd.ntmps50
  go_wp2
  exact bodyPost_ret (v := .tuple #[.agg #[.string { data := #[99, 97, 112] }, .int .i64 2, .int .i64 1, .string { data := #[98] }, .string { data := #[97] }], .bool true]) (by simp [results, Tryd.results50, go_sem]) rfl ⟨rfl, rfl⟩
set_option maxRecDepth 20000 in
theorem table_34 (w : World) : Calls Tryd.prog 50 #[.int .i64 34] w fun e w' => e = .returned (.tuple #[.agg #[.string { data := #[115, 101, 108, 101, 99, 116] }, .int .i64 5, .int .i64 4, .string { data := #[42] }, .string { data := #[42] }], .bool true]) ∧ w' = (w.alloc (.cells #[.string { data := #[115, 101, 108, 101, 99, 116] }, .int .i64 5, .int .i64 4, .string { data := #[42] }, .string { data := #[42] }] 101)).alloc (.cells #[.string { data := #[115, 101, 108, 101, 99, 116] }, .int .i64 5, .int .i64 4, .string { data := #[42] }, .string { data := #[42] }] 101) := by
  go_enter Tryd.func50, Tryd.ntmps50
  go_wp2
  exact bodyPost_ret (v := .tuple #[.agg #[.string { data := #[115, 101, 108, 101, 99, 116] }, .int .i64 5, .int .i64 4, .string { data := #[42] }, .string { data := #[42] }], .bool true]) (by simp [results, Tryd.results50, go_sem]) rfl ⟨rfl, rfl⟩
set_option maxRecDepth 20000 in
theorem table_35 (w : World) : Calls Tryd.prog 50 #[.int .i64 35] w fun e w' => e = .returned (.tuple #[.agg #[.string { data := #[108, 111, 99, 107] }, .int .i64 1, .int .i64 2, .string { data := #[97] }, .string { data := #[] }], .bool true]) ∧ w' = (w.alloc (.cells #[.string { data := #[108, 111, 99, 107] }, .int .i64 1, .int .i64 2, .string { data := #[97] }, .string { data := #[] }] 101)).alloc (.cells #[.string { data := #[108, 111, 99, 107] }, .int .i64 1, .int .i64 2, .string { data := #[97] }, .string { data := #[] }] 101) := by
  go_enter Tryd.func50, Tryd.ntmps50
  go_wp2
  exact bodyPost_ret (v := .tuple #[.agg #[.string { data := #[108, 111, 99, 107] }, .int .i64 1, .int .i64 2, .string { data := #[97] }, .string { data := #[] }], .bool true]) (by simp [results, Tryd.results50, go_sem]) rfl ⟨rfl, rfl⟩
set_option maxRecDepth 20000 in
theorem table_36 (w : World) : Calls Tryd.prog 50 #[.int .i64 36] w fun e w' => e = .returned (.tuple #[.agg #[.string { data := #[117, 110, 108, 111, 99, 107] }, .int .i64 1, .int .i64 2, .string { data := #[97] }, .string { data := #[] }], .bool true]) ∧ w' = (w.alloc (.cells #[.string { data := #[117, 110, 108, 111, 99, 107] }, .int .i64 1, .int .i64 2, .string { data := #[97] }, .string { data := #[] }] 101)).alloc (.cells #[.string { data := #[117, 110, 108, 111, 99, 107] }, .int .i64 1, .int .i64 2, .string { data := #[97] }, .string { data := #[] }] 101) := by
  go_enter Tryd.func50, Tryd.ntmps50
  go_wp2
  exact bodyPost_ret (v := .tuple #[.agg #[.string { data := #[117, 110, 108, 111, 99, 107] }, .int .i64 1, .int .i64 2, .string { data := #[97] }, .string { data := #[] }], .bool true]) (by simp [results, Tryd.results50, go_sem]) rfl ⟨rfl, rfl⟩
set_option maxRecDepth 20000 in
theorem table_37 (w : World) : Calls Tryd.prog 50 #[.int .i64 37] w fun e w' => e = .returned (.tuple #[.agg #[.string { data := #[114, 108, 111, 99, 107] }, .int .i64 1, .int .i64 2, .string { data := #[97] }, .string { data := #[] }], .bool true]) ∧ w' = (w.alloc (.cells #[.string { data := #[114, 108, 111, 99, 107] }, .int .i64 1, .int .i64 2, .string { data := #[97] }, .string { data := #[] }] 101)).alloc (.cells #[.string { data := #[114, 108, 111, 99, 107] }, .int .i64 1, .int .i64 2, .string { data := #[97] }, .string { data := #[] }] 101) := by
  go_enter Tryd.func50, Tryd.ntmps50
  go_wp2
  exact bodyPost_ret (v := .tuple #[.agg #[.string { data := #[114, 108, 111, 99, 107] }, .int .i64 1, .int .i64 2, .string { data := #[97] }, .string { data := #[] }], .bool true]) (by simp [results, Tryd.results50, go_sem]) rfl ⟨rfl, rfl⟩
set_option maxRecDepth 20000 in
theorem table_38 (w : World) : Calls Tryd.prog 50 #[.int .i64 38] w fun e w' => e = .returned (.tuple #[.agg #[.string { data := #[114, 117, 110, 108, 111, 99, 107] }, .int .i64 1, .int .i64 2, .string { data := #[97] }, .string { data := #[] }], .bool true]) ∧ w' = (w.alloc (.cells #[.string { data := #[114, 117, 110, 108, 111, 99, 107] }, .int .i64 1, .int .i64 2, .string { data := #[97] }, .string { data := #[] }] 101)).alloc (.cells #[.string { data := #[114, 117, 110, 108, 111, 99, 107] }, .int .i64 1, .int .i64 2, .string { data := #[97] }, .string { data := #[] }] 101) := by
  go_enter Tryd.func50, Tryd.ntmps50
  go_wp2
  exact bodyPost_ret (v := .tuple #[.agg #[.string { data := #[114, 117, 110, 108, 111, 99, 107] }, .int .i64 1, .int .i64 2, .string { data := #[97] }, .string { data := #[] }], .bool true]) (by simp [results, Tryd.results50, go_sem]) rfl ⟨rfl, rfl⟩
set_option maxRecDepth 20000 in
theorem table_39 (w : World) : Calls Tryd.prog 50 #[.int .i64 39] w fun e w' => e = .returned (.tuple #[.agg #[.string { data := #[119, 97, 100, 100] }, .int .i64 2, .int .i64 2, .string { data := #[97, 98] }, .string { data := #[] }], .bool true]) ∧ w' = (w.alloc (.cells #[.string { data := #[119, 97, 100, 100] }, .int .i64 2, .int .i64 2, .string { data := #[97, 98] }, .string { data := #[] }] 101)).alloc (.cells #[.string { data := #[119, 97, 100, 100] }, .int .i64 2, .int .i64 2, .string { data := #[97, 98] }, .string { data := #[] }] 101) := by
  go_enter Tryd.func50, Tryd.ntmps50
  go_wp2
  exact bodyPost_ret (v := .tuple #[.agg #[.string { data := #[119, 97, 100, 100] }, .int .i64 2, .int .i64 2, .string { data := #[97, 98] }, .string { data := #[] }], .bool true]) (by simp [results, Tryd.results50, go_sem]) rfl ⟨rfl, rfl⟩
set_option maxRecDepth 20000 in
theorem table_40 (w : World) : Calls Tryd.prog 50 #[.int .i64 40] w fun e w' => e = .returned (.tuple #[.agg #[.string { data := #[119, 100, 111, 110, 101] }, .int .i64 1, .int .i64 2, .string { data := #[97] }, .string { data := #[] }], .bool true]) ∧ w' = (w.alloc (.cells #[.string { data := #[119, 100, 111, 110, 101] }, .int .i64 1, .int .i64 2, .string { data := #[97] }, .string { data := #[] }] 101)).alloc (.cells #[.string { data := #[119, 100, 111, 110, 101] }, .int .i64 1, .int .i64 2, .string { data := #[97] }, .string { data := #[] }] 101) := by
  go_enter Tryd.func50, Tryd.ntmps50
  go_wp2
  exact bodyPost_ret (v := .tuple #[.agg #[.string { data := #[119, 100, 111, 110, 101] }, .int .i64 1, .int .i64 2, .string { data := #[97] }, .string { data := #[] }], .bool true]) (by simp [results, Tryd.results50, go_sem]) rfl ⟨rfl, rfl⟩
set_option maxRecDepth 20000 in
theorem table_41 (w : World) : Calls Tryd.prog 50 #[.int .i64 41] w fun e w' => e = .returned (.tuple #[.agg #[.string { data := #[119, 119, 97, 105, 116] }, .int .i64 1, .int .i64 2, .string { data := #[97] }, .string { data := #[] }], .bool true]) ∧ w' = (w.alloc (.cells #[.string { data := #[119, 119, 97, 105, 116] }, .int .i64 1, .int .i64 2, .string { data := #[97] }, .string { data := #[] }] 101)).alloc (.cells #[.string { data := #[119, 119, 97, 105, 116] }, .int .i64 1, .int .i64 2, .string { data := #[97] }, .string { data := #[] }] 101) := by
  go_enter Tryd.func50, Tryd.ntmps50
  go_wp2
  exact bodyPost_ret (v := .tuple #[.agg #[.string { data := #[119, 119, 97, 105, 116] }, .int .i64 1, .int .i64 2, .string { data := #[97] }, .string { data := #[] }], .bool true]) (by simp [results, Tryd.results50, go_sem]) rfl ⟨rfl, rfl⟩
set_option maxRecDepth 20000 in
theorem table_42 (w : World) : Calls Tryd.prog 50 #[.int .i64 42] w fun e w' => e = .returned (.tuple #[.agg #[.string { data := #[99, 119, 97, 105, 116] }, .int .i64 2, .int .i64 3, .string { data := #[97, 98] }, .string { data := #[] }], .bool true]) ∧ w' = (w.alloc (.cells #[.string { data := #[99, 119, 97, 105, 116] }, .int .i64 2, .int .i64 3, .string { data := #[97, 98] }, .string { data := #[] }] 101)).alloc (.cells #[.string { data := #[99, 119, 97, 105, 116] }, .int .i64 2, .int .i64 3, .string { data := #[97, 98] }, .string { data := #[] }] 101) := by
  go_enter Tryd.func50, Tryd.ntmps50
  go_wp2
  exact bodyPost_ret (v := .tuple #[.agg #[.string { data := #[99, 119, 97, 105, 116] }, .int .i64 2, .int .i64 3, .string { data := #[97, 98] }, .string { data := #[] }], .bool true]) (by simp [results, Tryd.results50, go_sem]) rfl ⟨rfl, rfl⟩
set_option maxRecDepth 20000 in
theorem table_43 (w : World) : Calls Tryd.prog 50 #[.int .i64 43] w fun e w' => e = .returned (.tuple #[.agg #[.string { data := #[115, 105, 103, 110, 97, 108] }, .int .i64 1, .int .i64 2, .string { data := #[97] }, .string { data := #[] }], .bool true]) ∧ w' = (w.alloc (.cells #[.string { data := #[115, 105, 103, 110, 97, 108] }, .int .i64 1, .int .i64 2, .string { data := #[97] }, .string { data := #[] }] 101)).alloc (.cells #[.string { data := #[115, 105, 103, 110, 97, 108] }, .int .i64 1, .int .i64 2, .string { data := #[97] }, .string { data := #[] }] 101) := by
  go_enter Tryd.func50, Tryd.ntmps50
  go_wp2
  exact bodyPost_ret (v := .tuple #[.agg #[.string { data := #[115, 105, 103, 110, 97, 108] }, .int .i64 1, .int .i64 2, .string { data := #[97] }, .string { data := #[] }], .bool true]) (by simp [results, Tryd.results50, go_sem]) rfl ⟨rfl, rfl⟩
set_option maxRecDepth 20000 in
theorem table_44 (w : World) : Calls Tryd.prog 50 #[.int .i64 44] w fun e w' => e = .returned (.tuple #[.agg #[.string { data := #[98, 114, 111, 97, 100, 99, 97, 115, 116] }, .int .i64 1, .int .i64 3, .string { data := #[97] }, .string { data := #[] }], .bool true]) ∧ w' = (w.alloc (.cells #[.string { data := #[98, 114, 111, 97, 100, 99, 97, 115, 116] }, .int .i64 1, .int .i64 3, .string { data := #[97] }, .string { data := #[] }] 101)).alloc (.cells #[.string { data := #[98, 114, 111, 97, 100, 99, 97, 115, 116] }, .int .i64 1, .int .i64 3, .string { data := #[97] }, .string { data := #[] }] 101) := by
  go_enter Tryd.func50, Tryd.ntmps50
  go_wp2
  exact bodyPost_ret (v := .tuple #[.agg #[.string { data := #[98, 114, 111, 97, 100, 99, 97, 115, 116] }, .int .i64 1, .int .i64 3, .string { data := #[97] }, .string { data := #[] }], .bool true]) (by simp [results, Tryd.results50, go_sem]) rfl ⟨rfl, rfl⟩
set_option maxRecDepth 20000 in
theorem table_45 (w : World) : Calls Tryd.prog 50 #[.int .i64 45] w fun e w' => e = .returned (.tuple #[.agg #[.string { data := #[97, 99, 113, 117, 105, 114, 101] }, .int .i64 1, .int .i64 2, .string { data := #[97] }, .string { data := #[] }], .bool true]) ∧ w' = (w.alloc (.cells #[.string { data := #[97, 99, 113, 117, 105, 114, 101] }, .int .i64 1, .int .i64 2, .string { data := #[97] }, .string { data := #[] }] 101)).alloc (.cells #[.string { data := #[97, 99, 113, 117, 105, 114, 101] }, .int .i64 1, .int .i64 2, .string { data := #[97] }, .string { data := #[] }] 101) := by
  go_enter Tryd.func50, Tryd.ntmps50
  go_wp2
  exact bodyPost_ret (v := .tuple #[.agg #[.string { data := #[97, 99, 113, 117, 105, 114, 101] }, .int .i64 1, .int .i64 2, .string { data := #[97] }, .string { data := #[] }], .bool true]) (by simp [results, Tryd.results50, go_sem]) rfl ⟨rfl, rfl⟩
set_option maxRecDepth 20000 in
theorem table_46 (w : World) : Calls Tryd.prog 50 #[.int .i64 46] w fun e w' => e = .returned (.tuple #[.agg #[.string { data := #[114, 101, 108, 101, 97, 115, 101] }, .int .i64 1, .int .i64 2, .string { data := #[97] }, .string { data := #[] }], .bool true]) ∧ w' = (w.alloc (.cells #[.string { data := #[114, 101, 108, 101, 97, 115, 101] }, .int .i64 1, .int .i64 2, .string { data := #[97] }, .string { data := #[] }] 101)).alloc (.cells #[.string { data := #[114, 101, 108, 101, 97, 115, 101] }, .int .i64 1, .int .i64 2, .string { data := #[97] }, .string { data := #[] }] 101) := by
  go_enter Tryd.func50, Tryd.ntmps50
  go_wp2
  exact bodyPost_ret (v := .tuple #[.agg #[.string { data := #[114, 101, 108, 101, 97, 115, 101] }, .int .i64 1, .int .i64 2, .string { data := #[97] }, .string { data := #[] }], .bool true]) (by simp [results, Tryd.results50, go_sem]) rfl ⟨rfl, rfl⟩
set_option maxRecDepth 20000 in
theorem table_47 (w : World) : Calls Tryd.prog 50 #[.int .i64 47] w fun e w' => e = .returned (.tuple #[.agg #[.string { data := #[108, 111, 97, 100] }, .int .i64 2, .int .i64 2, .string { data := #[98] }, .string { data := #[97] }], .bool true]) ∧ w' = (w.alloc (.cells #[.string { data := #[108, 111, 97, 100] }, .int .i64 2, .int .i64 2, .string { data := #[98] }, .string { data := #[97] }] 101)).alloc (.cells #[.string { data := #[108, 111, 97, 100] }, .int .i64 2, .int .i64 2, .string { data := #[98] }, .string { data := #[97] }] 101) := by
  go_enter Tryd.func50, Tryd.ntmps50
  go_wp2
  exact bodyPost_ret (v := .tuple #[.agg #[.string { data := #[108, 111, 97, 100] }, .int .i64 2, .int .i64 2, .string { data := #[98] }, .string { data := #[97] }], .bool true]) (by simp [results, Tryd.results50, go_sem]) rfl ⟨rfl, rfl⟩
set_option maxRecDepth 20000 in
theorem table_48 (w : World) : Calls Tryd.prog 50 #[.int .i64 48] w fun e w' => e = .returned (.tuple #[.agg #[.string { data := #[115, 116, 111, 114, 101] }, .int .i64 2, .int .i64 2, .string { data := #[97, 98] }, .string { data := #[] }], .bool true]) ∧ w' = (w.alloc (.cells #[.string { data := #[115, 116, 111, 114, 101] }, .int .i64 2, .int .i64 2, .string { data := #[97, 98] }, .string { data := #[] }] 101)).alloc (.cells #[.string { data := #[115, 116, 111, 114, 101] }, .int .i64 2, .int .i64 2, .string { data := #[97, 98] }, .string { data := #[] }] 101) := by
  go_enter Tryd.func50, Tryd.ntmps50
  go_wp2
  exact bodyPost_ret (v := .tuple #[.agg #[.string { data := #[115, 116, 111, 114, 101] }, .int .i64 2, .int .i64 2, .string { data := #[97, 98] }, .string { data := #[] }], .bool true]) (by simp [results, Tryd.results50, go_sem]) rfl ⟨rfl, rfl⟩
set_option maxRecDepth 20000 in
theorem table_49 (w : World) : Calls Tryd.prog 50 #[.int .i64 49] w fun e w' => e = .returned (.tuple #[.agg #[.string { data := #[115, 119, 97, 112] }, .int .i64 3, .int .i64 3, .string { data := #[97, 98, 99] }, .string { data := #[97] }], .bool true]) ∧ w' = (w.alloc (.cells #[.string { data := #[115, 119, 97, 112] }, .int .i64 3, .int .i64 3, .string { data := #[97, 98, 99] }, .string { data := #[97] }] 101)).alloc (.cells #[.string { data := #[115, 119, 97, 112] }, .int .i64 3, .int .i64 3, .string { data := #[97, 98, 99] }, .string { data := #[97] }] 101) := by
  go_enter Tryd.func50, Tryd.ntmps50
  go_wp2
  exact bodyPost_ret (v := .tuple #[.agg #[.string { data := #[115, 119, 97, 112] }, .int .i64 3, .int .i64 3, .string { data := #[97, 98, 99] }, .string { data := #[97] }], .bool true]) (by simp [results, Tryd.results50, go_sem]) rfl ⟨rfl, rfl⟩
set_option maxRecDepth 20000 in
theorem table_50 (w : World) : Calls Tryd.prog 50 #[.int .i64 50] w fun e w' => e = .returned (.tuple #[.agg #[.string { data := #[102, 101, 116, 99, 104] }, .int .i64 3, .int .i64 3, .string { data := #[98, 99] }, .string { data := #[97] }], .bool true]) ∧ w' = (w.alloc (.cells #[.string { data := #[102, 101, 116, 99, 104] }, .int .i64 3, .int .i64 3, .string { data := #[98, 99] }, .string { data := #[97] }] 101)).alloc (.cells #[.string { data := #[102, 101, 116, 99, 104] }, .int .i64 3, .int .i64 3, .string { data := #[98, 99] }, .string { data := #[97] }] 101) := by
  go_enter Tryd.func50, Tryd.ntmps50
  go_wp2
  exact bodyPost_ret (v := .tuple #[.agg #[.string { data := #[102, 101, 116, 99, 104] }, .int .i64 3, .int .i64 3, .string { data := #[98, 99] }, .string { data := #[97] }], .bool true]) (by simp [results, Tryd.results50, go_sem]) rfl ⟨rfl, rfl⟩
set_option maxRecDepth 20000 in
theorem table_51 (w : World) : Calls Tryd.prog 50 #[.int .i64 51] w fun e w' => e = .returned (.tuple #[.agg #[.string { data := #[105, 110, 112, 117, 116] }, .int .i64 2, .int .i64 2, .string { data := #[] }, .string { data := #[97, 98] }], .bool true]) ∧ w' = (w.alloc (.cells #[.string { data := #[105, 110, 112, 117, 116] }, .int .i64 2, .int .i64 2, .string { data := #[] }, .string { data := #[97, 98] }] 101)).alloc (.cells #[.string { data := #[105, 110, 112, 117, 116] }, .int .i64 2, .int .i64 2, .string { data := #[] }, .string { data := #[97, 98] }] 101) := by
  go_enter Tryd.func50, Tryd.ntmps50
  go_wp2
  exact bodyPost_ret (v := .tuple #[.agg #[.string { data := #[105, 110, 112, 117, 116] }, .int .i64 2, .int .i64 2, .string { data := #[] }, .string { data := #[97, 98] }], .bool true]) (by simp [results, Tryd.results50, go_sem]) rfl ⟨rfl, rfl⟩
set_option maxRecDepth 20000 in
theorem table_52 (w : World) : Calls Tryd.prog 50 #[.int .i64 52] w fun e w' => e = .returned (.tuple #[.agg #[.string { data := #[111, 117, 116, 112, 117, 116] }, .int .i64 1, .int .i64 2, .string { data := #[97] }, .string { data := #[] }], .bool true]) ∧ w' = (w.alloc (.cells #[.string { data := #[111, 117, 116, 112, 117, 116] }, .int .i64 1, .int .i64 2, .string { data := #[97] }, .string { data := #[] }] 101)).alloc (.cells #[.string { data := #[111, 117, 116, 112, 117, 116] }, .int .i64 1, .int .i64 2, .string { data := #[97] }, .string { data := #[] }] 101) := by
  go_enter Tryd.func50, Tryd.ntmps50
  go_wp2
  exact bodyPost_ret (v := .tuple #[.agg #[.string { data := #[111, 117, 116, 112, 117, 116] }, .int .i64 1, .int .i64 2, .string { data := #[97] }, .string { data := #[] }], .bool true]) (by simp [results, Tryd.results50, go_sem]) rfl ⟨rfl, rfl⟩
set_option maxRecDepth 20000 in
theorem table_53 (w : World) : Calls Tryd.prog 50 #[.int .i64 53] w fun e w' => e = .returned (.tuple #[.agg #[.string { data := #[112, 117, 116] }, .int .i64 3, .int .i64 2, .string { data := #[97, 98] }, .string { data := #[99] }], .bool true]) ∧ w' = (w.alloc (.cells #[.string { data := #[112, 117, 116] }, .int .i64 3, .int .i64 2, .string { data := #[97, 98] }, .string { data := #[99] }] 101)).alloc (.cells #[.string { data := #[112, 117, 116] }, .int .i64 3, .int .i64 2, .string { data := #[97, 98] }, .string { data := #[99] }] 101) := by
  go_enter Tryd.func50, Tryd.ntmps50
  go_wp2
  exact bodyPost_ret (v := .tuple #[.agg #[.string { data := #[112, 117, 116] }, .int .i64 3, .int .i64 2, .string { data := #[97, 98] }, .string { data := #[99] }], .bool true]) (by simp [results, Tryd.results50, go_sem]) rfl ⟨rfl, rfl⟩
set_option maxRecDepth 20000 in
theorem table_54 (w : World) : Calls Tryd.prog 50 #[.int .i64 54] w fun e w' => e = .returned (.tuple #[.agg #[.string { data := #[103, 101, 116] }, .int .i64 3, .int .i64 2, .string { data := #[99] }, .string { data := #[97, 98] }], .bool true]) ∧ w' = (w.alloc (.cells #[.string { data := #[103, 101, 116] }, .int .i64 3, .int .i64 2, .string { data := #[99] }, .string { data := #[97, 98] }] 101)).alloc (.cells #[.string { data := #[103, 101, 116] }, .int .i64 3, .int .i64 2, .string { data := #[99] }, .string { data := #[97, 98] }] 101) := by
  go_enter Tryd.func50, Tryd.ntmps50
  go_wp2
  exact bodyPost_ret (v := .tuple #[.agg #[.string { data := #[103, 101, 116] }, .int .i64 3, .int .i64 2, .string { data := #[99] }, .string { data := #[97, 98] }], .bool true]) (by simp [results, Tryd.results50, go_sem]) rfl ⟨rfl, rfl⟩
set_option maxRecDepth 20000 in
theorem table_55 (w : World) : Calls Tryd.prog 50 #[.int .i64 55] w fun e w' => e = .returned (.tuple #[.agg #[.string { data := #[97, 102, 116, 101, 114] }, .int .i64 3, .int .i64 3, .string { data := #[98, 99] }, .string { data := #[97] }], .bool true]) ∧ w' = (w.alloc (.cells #[.string { data := #[97, 102, 116, 101, 114] }, .int .i64 3, .int .i64 3, .string { data := #[98, 99] }, .string { data := #[97] }] 101)).alloc (.cells #[.string { data := #[97, 102, 116, 101, 114] }, .int .i64 3, .int .i64 3, .string { data := #[98, 99] }, .string { data := #[97] }] 101) := by
  go_enter Tryd.func50, Tryd.ntmps50
  go_wp2
  exact bodyPost_ret (v := .tuple #[.agg #[.string { data := #[97, 102, 116, 101, 114] }, .int .i64 3, .int .i64 3, .string { data := #[98, 99] }, .string { data := #[97] }], .bool true]) (by simp [results, Tryd.results50, go_sem]) rfl ⟨rfl, rfl⟩
set_option maxRecDepth 20000 in
theorem table_56 (w : World) : Calls Tryd.prog 50 #[.int .i64 56] w fun e w' => e = .returned (.tuple #[.agg #[.string { data := #[101, 118, 101, 114, 121] }, .int .i64 3, .int .i64 3, .string { data := #[98, 99] }, .string { data := #[97] }], .bool true]) ∧ w' = (w.alloc (.cells #[.string { data := #[101, 118, 101, 114, 121] }, .int .i64 3, .int .i64 3, .string { data := #[98, 99] }, .string { data := #[97] }] 101)).alloc (.cells #[.string { data := #[101, 118, 101, 114, 121] }, .int .i64 3, .int .i64 3, .string { data := #[98, 99] }, .string { data := #[97] }] 101) := by
  go_enter Tryd.func50, Tryd.ntmps50
  go_wp2
  exact bodyPost_ret (v := .tuple #[.agg #[.string { data := #[101, 118, 101, 114, 121] }, .int .i64 3, .int .i64 3, .string { data := #[98, 99] }, .string { data := #[97] }], .bool true]) (by simp [results, Tryd.results50, go_sem]) rfl ⟨rfl, rfl⟩
set_option maxRecDepth 20000 in
theorem table_57 (w : World) : Calls Tryd.prog 50 #[.int .i64 57] w fun e w' => e = .returned (.tuple #[.agg #[.string { data := #[115, 116, 111, 112] }, .int .i64 2, .int .i64 2, .string { data := #[98] }, .string { data := #[97] }], .bool true]) ∧ w' = (w.alloc (.cells #[.string { data := #[115, 116, 111, 112] }, .int .i64 2, .int .i64 2, .string { data := #[98] }, .string { data := #[97] }] 101)).alloc (.cells #[.string { data := #[115, 116, 111, 112] }, .int .i64 2, .int .i64 2, .string { data := #[98] }, .string { data := #[97] }] 101) := by
  go_enter Tryd.func50, Tryd.ntmps50
  go_wp2
  exact bodyPost_ret (v := .tuple #[.agg #[.string { data := #[115, 116, 111, 112] }, .int .i64 2, .int .i64 2, .string { data := #[98] }, .string { data := #[97] }], .bool true]) (by simp [results, Tryd.results50, go_sem]) rfl ⟨rfl, rfl⟩
set_option maxRecDepth 20000 in
theorem table_58 (w : World) : Calls Tryd.prog 50 #[.int .i64 58] w fun e w' => e = .returned (.tuple #[.agg #[.string { data := #[116, 114, 97, 112] }, .int .i64 4, .int .i64 1, .string { data := #[] }, .string { data := #[] }], .bool true]) ∧ w' = (w.alloc (.cells #[.string { data := #[116, 114, 97, 112] }, .int .i64 4, .int .i64 1, .string { data := #[] }, .string { data := #[] }] 101)).alloc (.cells #[.string { data := #[116, 114, 97, 112] }, .int .i64 4, .int .i64 1, .string { data := #[] }, .string { data := #[] }] 101) := by
  go_enter Tryd.func50, Tryd.ntmps50
  go_wp2
  exact bodyPost_ret (v := .tuple #[.agg #[.string { data := #[116, 114, 97, 112] }, .int .i64 4, .int .i64 1, .string { data := #[] }, .string { data := #[] }], .bool true]) (by simp [results, Tryd.results50, go_sem]) rfl ⟨rfl, rfl⟩
set_option maxRecDepth 20000 in
theorem table_no (o : Int) (h : o < 1 ∨ 58 < o) (w : World) : Calls Tryd.prog 50 #[.int .i64 o] w fun e w' => e = .returned (.tuple #[.agg #[.string { data := #[] }, .int .i64 0, .int .i64 0, .string { data := #[] }, .string { data := #[] }], .bool false]) ∧ Gr w w' := by
  have n1 : (o == 1) = false := by simp; omega
  have n2 : (o == 2) = false := by simp; omega
  have n3 : (o == 3) = false := by simp; omega
  have n4 : (o == 4) = false := by simp; omega
  have n5 : (o == 5) = false := by simp; omega
  have n6 : (o == 6) = false := by simp; omega
  have n7 : (o == 7) = false := by simp; omega
  have n8 : (o == 8) = false := by simp; omega
  have n9 : (o == 9) = false := by simp; omega
  have n10 : (o == 10) = false := by simp; omega
  have n11 : (o == 11) = false := by simp; omega
  have n12 : (o == 12) = false := by simp; omega
  have n13 : (o == 13) = false := by simp; omega
  have n14 : (o == 14) = false := by simp; omega
  have n15 : (o == 15) = false := by simp; omega
  have n16 : (o == 16) = false := by simp; omega
  have n17 : (o == 17) = false := by simp; omega
  have n18 : (o == 18) = false := by simp; omega
  have n19 : (o == 19) = false := by simp; omega
  have n20 : (o == 20) = false := by simp; omega
  have n21 : (o == 21) = false := by simp; omega
  have n22 : (o == 22) = false := by simp; omega
  have n23 : (o == 23) = false := by simp; omega
  have n24 : (o == 24) = false := by simp; omega
  have n25 : (o == 25) = false := by simp; omega
  have n26 : (o == 26) = false := by simp; omega
  have n27 : (o == 27) = false := by simp; omega
  have n28 : (o == 28) = false := by simp; omega
  have n29 : (o == 29) = false := by simp; omega
  have n30 : (o == 30) = false := by simp; omega
  have n31 : (o == 31) = false := by simp; omega
  have n32 : (o == 32) = false := by simp; omega
  have n33 : (o == 33) = false := by simp; omega
  have n34 : (o == 34) = false := by simp; omega
  have n35 : (o == 35) = false := by simp; omega
  have n36 : (o == 36) = false := by simp; omega
  have n37 : (o == 37) = false := by simp; omega
  have n38 : (o == 38) = false := by simp; omega
  have n39 : (o == 39) = false := by simp; omega
  have n40 : (o == 40) = false := by simp; omega
  have n41 : (o == 41) = false := by simp; omega
  have n42 : (o == 42) = false := by simp; omega
  have n43 : (o == 43) = false := by simp; omega
  have n44 : (o == 44) = false := by simp; omega
  have n45 : (o == 45) = false := by simp; omega
  have n46 : (o == 46) = false := by simp; omega
  have n47 : (o == 47) = false := by simp; omega
  have n48 : (o == 48) = false := by simp; omega
  have n49 : (o == 49) = false := by simp; omega
  have n50 : (o == 50) = false := by simp; omega
  have n51 : (o == 51) = false := by simp; omega
  have n52 : (o == 52) = false := by simp; omega
  have n53 : (o == 53) = false := by simp; omega
  have n54 : (o == 54) = false := by simp; omega
  have n55 : (o == 55) = false := by simp; omega
  have n56 : (o == 56) = false := by simp; omega
  have n57 : (o == 57) = false := by simp; omega
  have n58 : (o == 58) = false := by simp; omega
  clear h
  go_enter Tryd.func50, Tryd.ntmps50
  go_wp2
  exact bodyPost_ret (v := .tuple #[.agg #[.string { data := #[] }, .int .i64 0, .int .i64 0, .string { data := #[] }, .string { data := #[] }], .bool false]) (by simp [results, Tryd.results50, go_sem]) rfl ⟨rfl, ((Gr.refl _).alloc _ _).alloc _ _⟩

/-- what the table's call leaves: its row, and behind the first half another one -/
def tw (k : Nat) (w : World) : World := bif Nat.blt k 30 then w.alloc (.cells #[.string (nm k), .int .i64 (sh k : Nat), .int .i64 (co k), .string (rd k), .string (wr k)] 101) else (w.alloc (.cells #[.string (nm k), .int .i64 (sh k : Nat), .int .i64 (co k), .string (rd k), .string (wr k)] 101)).alloc (.cells #[.string (nm k), .int .i64 (sh k : Nat), .int .i64 (co k), .string (rd k), .string (wr k)] 101)
theorem table_at : ∀ k, 1 ≤ k → k < 59 → ∀ w : World, Calls Tryd.prog 50 #[.int .i64 (k : Nat)] w fun e w' => e = .returned (.tuple #[rowV k, .bool true]) ∧ w' = tw k w :=
  ops_all (P := fun k => ∀ w : World, Calls Tryd.prog 50 #[.int .i64 (k : Nat)] w fun e w' => e = .returned (.tuple #[rowV k, .bool true]) ∧ w' = tw k w) table_1 table_2 table_3 table_4 table_5 table_6 table_7 table_8 table_9 table_10 table_11 table_12 table_13 table_14 table_15 table_16 table_17 table_18 table_19 table_20 table_21 table_22 table_23 table_24 table_25 table_26 table_27 table_28 table_29 table_30 table_31 table_32 table_33 table_34 table_35 table_36 table_37 table_38 table_39 table_40 table_41 table_42 table_43 table_44 table_45 table_46 table_47 table_48 table_49 table_50 table_51 table_52 table_53 table_54 table_55 table_56 table_57 table_58
theorem tw_lo {k : Nat} (h : k < 30) (w : World) : tw k w = w.alloc (.cells #[.string (nm k), .int .i64 (sh k : Nat), .int .i64 (co k), .string (rd k), .string (wr k)] 101) := by
  unfold tw
  rw [show Nat.blt k 30 = true from Nat.ble_eq_true_of_le h]
  rfl
theorem tw_hi {k : Nat} (h : ¬ k < 30) (w : World) : tw k w = (w.alloc (.cells #[.string (nm k), .int .i64 (sh k : Nat), .int .i64 (co k), .string (rd k), .string (wr k)] 101)).alloc (.cells #[.string (nm k), .int .i64 (sh k : Nat), .int .i64 (co k), .string (rd k), .string (wr k)] 101) := by
  unfold tw
  have e : Nat.blt k 30 = false := by
    cases hb : Nat.blt k 30 with
    | false => rfl
    | true => exact absurd (Nat.le_of_ble_eq_true hb) h
  rw [e]
  rfl
theorem tw_gr (k : Nat) (w : World) : Gr w (tw k w) := by
  by_cases h : k < 30
  · rw [tw_lo h]
    exact (Gr.refl _).alloc _ _
  · rw [tw_hi h]
    exact ((Gr.refl _).alloc _ _).alloc _ _
theorem table_all (k : Nat) (h1 : 1 ≤ k) (h2 : k < 59) (w : World) : Calls Tryd.prog 50 #[.int .i64 (k : Nat)] w fun e w' => e = .returned (.tuple #[rowV k, .bool true]) ∧ Gr w w' :=
  (table_at k h1 h2 w).mono fun e w' ⟨he, hw⟩ => ⟨he, by rw [hw]; exact tw_gr k w⟩
end Go.Proofs.YtcdlhfodeckleaaDoor.Wd
