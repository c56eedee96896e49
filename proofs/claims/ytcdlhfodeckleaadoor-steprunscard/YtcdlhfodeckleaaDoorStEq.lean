/-
  Registers are equal to themselves. No conditions.
-/
import Derived.Test.YtcdlhfodeckleaaDoorStBase
namespace Go.Proofs.YtcdlhfodeckleaaDoor.Lt
open Go.RowKit Wd

theorem eqItems_self (d : Nat) (e : TypeId) (c : Nat) (xs : Array Value) (w : World) (he : Tryd.prog.underlying e = some (.int .i64)) : ∀ (is : List Nat), (∀ i, i ∈ is → ∃ n, (part e xs (i * c)).run Tryd.prog w = .ok (.int .i64 n) w) → (Op.eqItems (d + 1) e c xs xs is).run Tryd.prog w = .ok true w := by
  intro is
  induction is with
  | nil => intro _; simp [Op.eqItems]
  | cons i is ih =>
    intro h
    obtain ⟨n, hn⟩ := h i (by simp)
    have h2 := ih (fun j hj => h j (List.mem_cons_of_mem _ hj))
    have h3 := run_equalIn_int (P := Tryd.prog) w d e .i64 .i64 n n he
    simp [Op.eqItems, hn, h2, h3, Result.andThen]
theorem i64_info : ∃ i, Tryd.prog.info? 2 = some i ∧ Tryd.prog.cellsOf 2 = 1 := by
  cases hi : Tryd.prog.info? 2 with
  | none => exact absurd hi (by decide +kernel)
  | some i => exact ⟨i, rfl, by kernel_rfl⟩
set_option maxRecDepth 20000 in
theorem eq16 (r0 r1 r2 r3 r4 r5 r6 r7 r8 r9 r10 r11 r12 r13 r14 r15 : Int) (w : World) : (Op.equalIn 10000 27 (.agg #[.int .i64 r0, .int .i64 r1, .int .i64 r2, .int .i64 r3, .int .i64 r4, .int .i64 r5, .int .i64 r6, .int .i64 r7, .int .i64 r8, .int .i64 r9, .int .i64 r10, .int .i64 r11, .int .i64 r12, .int .i64 r13, .int .i64 r14, .int .i64 r15]) (.agg #[.int .i64 r0, .int .i64 r1, .int .i64 r2, .int .i64 r3, .int .i64 r4, .int .i64 r5, .int .i64 r6, .int .i64 r7, .int .i64 r8, .int .i64 r9, .int .i64 r10, .int .i64 r11, .int .i64 r12, .int .i64 r13, .int .i64 r14, .int .i64 r15])).run Tryd.prog w = .ok true w := by
  obtain ⟨i0, hi, hc⟩ := i64_info
  rw [run_equalIn_array (P := Tryd.prog) w 9999 #[.int .i64 r0, .int .i64 r1, .int .i64 r2, .int .i64 r3, .int .i64 r4, .int .i64 r5, .int .i64 r6, .int .i64 r7, .int .i64 r8, .int .i64 r9, .int .i64 r10, .int .i64 r11, .int .i64 r12, .int .i64 r13, .int .i64 r14, .int .i64 r15] #[.int .i64 r0, .int .i64 r1, .int .i64 r2, .int .i64 r3, .int .i64 r4, .int .i64 r5, .int .i64 r6, .int .i64 r7, .int .i64 r8, .int .i64 r9, .int .i64 r10, .int .i64 r11, .int .i64 r12, .int .i64 r13, .int .i64 r14, .int .i64 r15] Tryd.underlying27 hi, hc]
  refine eqItems_self 9998 2 1 #[.int .i64 r0, .int .i64 r1, .int .i64 r2, .int .i64 r3, .int .i64 r4, .int .i64 r5, .int .i64 r6, .int .i64 r7, .int .i64 r8, .int .i64 r9, .int .i64 r10, .int .i64 r11, .int .i64 r12, .int .i64 r13, .int .i64 r14, .int .i64 r15] w Tryd.underlying2 (List.range 16) (fun i hi => ?_)
  rw [List.mem_range] at hi
  rw [Nat.mul_one]
  have hs : i = 0 ∨ i = 1 ∨ i = 2 ∨ i = 3 ∨ i = 4 ∨ i = 5 ∨ i = 6 ∨ i = 7 ∨ i = 8 ∨ i = 9 ∨ i = 10 ∨ i = 11 ∨ i = 12 ∨ i = 13 ∨ i = 14 ∨ i = 15 := by omega
  rcases hs with rfl | rfl | rfl | rfl | rfl | rfl | rfl | rfl | rfl | rfl | rfl | rfl | rfl | rfl | rfl | rfl
  all_goals exact ⟨_, by simp [part, go_sem, Tryd.isAgg2]; first | rfl | skip⟩
end Go.Proofs.YtcdlhfodeckleaaDoor.Lt
