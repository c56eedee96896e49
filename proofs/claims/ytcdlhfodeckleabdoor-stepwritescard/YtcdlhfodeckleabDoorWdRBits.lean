/-
  What the document's bits answers, for each text of its table. Condition: registers are 0 to 15.
-/
import Derived.Test.YtcdlhfodeckleabDoorWdRegs
namespace Go.Proofs.YtcdlhfodeckleabDoor.Wd
open Go.RowKit

set_option maxRecDepth 20000 in
theorem rbits_n (o a b c m : Int) (_a0 : 0 ≤ a) (_a1 : a ≤ 15) (_b0 : 0 ≤ b) (_b1 : b ≤ 15) (_c0 : 0 ≤ c) (_c1 : c ≤ 15) (w : World) :
    Calls Tryd.prog 29 #[.string { data := #[] }, .agg #[.int .i64 o, .int .i64 a, .int .i64 b, .int .i64 c, .int .i64 m]] w fun e w' => e = .returned (.int .u16 (useV { data := #[] } a b c)) ∧ Gr w w' := by
  rw [useV_n]
  go_enter Tryd.func29, Tryd.ntmps29
  go_wp2_with fail
  go_rounds 4
  go_ret
  exact ⟨rfl, (Gr.refl _).alloc _ _⟩
set_option maxRecDepth 20000 in
theorem rbits_all (o a b c m : Int) (_a0 : 0 ≤ a) (_a1 : a ≤ 15) (_b0 : 0 ≤ b) (_b1 : b ≤ 15) (_c0 : 0 ≤ c) (_c1 : c ≤ 15) (w : World) :
    Calls Tryd.prog 29 #[.string { data := #[42] }, .agg #[.int .i64 o, .int .i64 a, .int .i64 b, .int .i64 c, .int .i64 m]] w fun e w' => e = .returned (.int .u16 (useV { data := #[42] } a b c)) ∧ Gr w w' := by
  rw [useV_all]
  go_enter Tryd.func29, Tryd.ntmps29
  go_wp2_with fail
  go_rounds 4
  go_ret
  exact ⟨rfl, (Gr.refl _).alloc _ _⟩
set_option maxRecDepth 20000 in
theorem rbits_a (o a b c m : Int) (_a0 : 0 ≤ a) (_a1 : a ≤ 15) (_b0 : 0 ≤ b) (_b1 : b ≤ 15) (_c0 : 0 ≤ c) (_c1 : c ≤ 15) (w : World) :
    Calls Tryd.prog 29 #[.string { data := #[97] }, .agg #[.int .i64 o, .int .i64 a, .int .i64 b, .int .i64 c, .int .i64 m]] w fun e w' => e = .returned (.int .u16 (useV { data := #[97] } a b c)) ∧ Gr w w' := by
  rw [useV_a]
  go_enter Tryd.func29, Tryd.ntmps29
  go_wp2_with fail
  go_rounds 4
  go_ret
  exact ⟨rfl, (Gr.refl _).alloc _ _⟩
set_option maxRecDepth 20000 in
theorem rbits_b (o a b c m : Int) (_a0 : 0 ≤ a) (_a1 : a ≤ 15) (_b0 : 0 ≤ b) (_b1 : b ≤ 15) (_c0 : 0 ≤ c) (_c1 : c ≤ 15) (w : World) :
    Calls Tryd.prog 29 #[.string { data := #[98] }, .agg #[.int .i64 o, .int .i64 a, .int .i64 b, .int .i64 c, .int .i64 m]] w fun e w' => e = .returned (.int .u16 (useV { data := #[98] } a b c)) ∧ Gr w w' := by
  rw [useV_b]
  go_enter Tryd.func29, Tryd.ntmps29
  go_wp2_with fail
  go_rounds 4
  go_ret
  exact ⟨rfl, (Gr.refl _).alloc _ _⟩
set_option maxRecDepth 20000 in
theorem rbits_c (o a b c m : Int) (_a0 : 0 ≤ a) (_a1 : a ≤ 15) (_b0 : 0 ≤ b) (_b1 : b ≤ 15) (_c0 : 0 ≤ c) (_c1 : c ≤ 15) (w : World) :
    Calls Tryd.prog 29 #[.string { data := #[99] }, .agg #[.int .i64 o, .int .i64 a, .int .i64 b, .int .i64 c, .int .i64 m]] w fun e w' => e = .returned (.int .u16 (useV { data := #[99] } a b c)) ∧ Gr w w' := by
  rw [useV_c]
  go_enter Tryd.func29, Tryd.ntmps29
  go_wp2_with fail
  go_rounds 4
  go_ret
  exact ⟨rfl, (Gr.refl _).alloc _ _⟩
set_option maxRecDepth 20000 in
theorem rbits_ab (o a b c m : Int) (_a0 : 0 ≤ a) (_a1 : a ≤ 15) (_b0 : 0 ≤ b) (_b1 : b ≤ 15) (_c0 : 0 ≤ c) (_c1 : c ≤ 15) (w : World) :
    Calls Tryd.prog 29 #[.string { data := #[97, 98] }, .agg #[.int .i64 o, .int .i64 a, .int .i64 b, .int .i64 c, .int .i64 m]] w fun e w' => e = .returned (.int .u16 (useV { data := #[97, 98] } a b c)) ∧ Gr w w' := by
  rw [useV_ab]
  go_enter Tryd.func29, Tryd.ntmps29
  go_wp2_with fail
  go_rounds 4
  go_ret
  exact ⟨rfl, (Gr.refl _).alloc _ _⟩
set_option maxRecDepth 20000 in
theorem rbits_bc (o a b c m : Int) (_a0 : 0 ≤ a) (_a1 : a ≤ 15) (_b0 : 0 ≤ b) (_b1 : b ≤ 15) (_c0 : 0 ≤ c) (_c1 : c ≤ 15) (w : World) :
    Calls Tryd.prog 29 #[.string { data := #[98, 99] }, .agg #[.int .i64 o, .int .i64 a, .int .i64 b, .int .i64 c, .int .i64 m]] w fun e w' => e = .returned (.int .u16 (useV { data := #[98, 99] } a b c)) ∧ Gr w w' := by
  rw [useV_bc]
  go_enter Tryd.func29, Tryd.ntmps29
  go_wp2_with fail
  go_rounds 4
  go_ret
  exact ⟨rfl, (Gr.refl _).alloc _ _⟩
set_option maxRecDepth 20000 in
theorem rbits_abc (o a b c m : Int) (_a0 : 0 ≤ a) (_a1 : a ≤ 15) (_b0 : 0 ≤ b) (_b1 : b ≤ 15) (_c0 : 0 ≤ c) (_c1 : c ≤ 15) (w : World) :
    Calls Tryd.prog 29 #[.string { data := #[97, 98, 99] }, .agg #[.int .i64 o, .int .i64 a, .int .i64 b, .int .i64 c, .int .i64 m]] w fun e w' => e = .returned (.int .u16 (useV { data := #[97, 98, 99] } a b c)) ∧ Gr w w' := by
  rw [useV_abc]
  go_enter Tryd.func29, Tryd.ntmps29
  go_wp2_with fail
  go_rounds 4
  go_ret
  exact ⟨rfl, (Gr.refl _).alloc _ _⟩
theorem rbits_rds : ∀ k, 1 ≤ k → k < 59 → ∀ (o a b c m : Int), (0 ≤ a ∧ a ≤ 15) → (0 ≤ b ∧ b ≤ 15) → (0 ≤ c ∧ c ≤ 15) → ∀ w : World, Calls Tryd.prog 29 #[.string (rd k), .agg #[.int .i64 o, .int .i64 a, .int .i64 b, .int .i64 c, .int .i64 m]] w fun e w' => e = .returned (.int .u16 (useV (rd k) a b c)) ∧ Gr w w' :=
  ops_all (P := fun k => ∀ (o a b c m : Int), (0 ≤ a ∧ a ≤ 15) → (0 ≤ b ∧ b ≤ 15) → (0 ≤ c ∧ c ≤ 15) → ∀ w : World, Calls Tryd.prog 29 #[.string (rd k), .agg #[.int .i64 o, .int .i64 a, .int .i64 b, .int .i64 c, .int .i64 m]] w fun e w' => e = .returned (.int .u16 (useV (rd k) a b c)) ∧ Gr w w')
    (fun o a b c m ha hb hc w => rbits_n o a b c m ha.1 ha.2 hb.1 hb.2 hc.1 hc.2 w)
    (fun o a b c m ha hb hc w => rbits_n o a b c m ha.1 ha.2 hb.1 hb.2 hc.1 hc.2 w)
    (fun o a b c m ha hb hc w => rbits_a o a b c m ha.1 ha.2 hb.1 hb.2 hc.1 hc.2 w)
    (fun o a b c m ha hb hc w => rbits_b o a b c m ha.1 ha.2 hb.1 hb.2 hc.1 hc.2 w)
    (fun o a b c m ha hb hc w => rbits_bc o a b c m ha.1 ha.2 hb.1 hb.2 hc.1 hc.2 w)
    (fun o a b c m ha hb hc w => rbits_bc o a b c m ha.1 ha.2 hb.1 hb.2 hc.1 hc.2 w)
    (fun o a b c m ha hb hc w => rbits_bc o a b c m ha.1 ha.2 hb.1 hb.2 hc.1 hc.2 w)
    (fun o a b c m ha hb hc w => rbits_bc o a b c m ha.1 ha.2 hb.1 hb.2 hc.1 hc.2 w)
    (fun o a b c m ha hb hc w => rbits_bc o a b c m ha.1 ha.2 hb.1 hb.2 hc.1 hc.2 w)
    (fun o a b c m ha hb hc w => rbits_bc o a b c m ha.1 ha.2 hb.1 hb.2 hc.1 hc.2 w)
    (fun o a b c m ha hb hc w => rbits_bc o a b c m ha.1 ha.2 hb.1 hb.2 hc.1 hc.2 w)
    (fun o a b c m ha hb hc w => rbits_bc o a b c m ha.1 ha.2 hb.1 hb.2 hc.1 hc.2 w)
    (fun o a b c m ha hb hc w => rbits_bc o a b c m ha.1 ha.2 hb.1 hb.2 hc.1 hc.2 w)
    (fun o a b c m ha hb hc w => rbits_bc o a b c m ha.1 ha.2 hb.1 hb.2 hc.1 hc.2 w)
    (fun o a b c m ha hb hc w => rbits_bc o a b c m ha.1 ha.2 hb.1 hb.2 hc.1 hc.2 w)
    (fun o a b c m ha hb hc w => rbits_bc o a b c m ha.1 ha.2 hb.1 hb.2 hc.1 hc.2 w)
    (fun o a b c m ha hb hc w => rbits_n o a b c m ha.1 ha.2 hb.1 hb.2 hc.1 hc.2 w)
    (fun o a b c m ha hb hc w => rbits_a o a b c m ha.1 ha.2 hb.1 hb.2 hc.1 hc.2 w)
    (fun o a b c m ha hb hc w => rbits_a o a b c m ha.1 ha.2 hb.1 hb.2 hc.1 hc.2 w)
    (fun o a b c m ha hb hc w => rbits_n o a b c m ha.1 ha.2 hb.1 hb.2 hc.1 hc.2 w)
    (fun o a b c m ha hb hc w => rbits_n o a b c m ha.1 ha.2 hb.1 hb.2 hc.1 hc.2 w)
    (fun o a b c m ha hb hc w => rbits_all o a b c m ha.1 ha.2 hb.1 hb.2 hc.1 hc.2 w)
    (fun o a b c m ha hb hc w => rbits_n o a b c m ha.1 ha.2 hb.1 hb.2 hc.1 hc.2 w)
    (fun o a b c m ha hb hc w => rbits_n o a b c m ha.1 ha.2 hb.1 hb.2 hc.1 hc.2 w)
    (fun o a b c m ha hb hc w => rbits_n o a b c m ha.1 ha.2 hb.1 hb.2 hc.1 hc.2 w)
    (fun o a b c m ha hb hc w => rbits_n o a b c m ha.1 ha.2 hb.1 hb.2 hc.1 hc.2 w)
    (fun o a b c m ha hb hc w => rbits_a o a b c m ha.1 ha.2 hb.1 hb.2 hc.1 hc.2 w)
    (fun o a b c m ha hb hc w => rbits_b o a b c m ha.1 ha.2 hb.1 hb.2 hc.1 hc.2 w)
    (fun o a b c m ha hb hc w => rbits_ab o a b c m ha.1 ha.2 hb.1 hb.2 hc.1 hc.2 w)
    (fun o a b c m ha hb hc w => rbits_c o a b c m ha.1 ha.2 hb.1 hb.2 hc.1 hc.2 w)
    (fun o a b c m ha hb hc w => rbits_a o a b c m ha.1 ha.2 hb.1 hb.2 hc.1 hc.2 w)
    (fun o a b c m ha hb hc w => rbits_b o a b c m ha.1 ha.2 hb.1 hb.2 hc.1 hc.2 w)
    (fun o a b c m ha hb hc w => rbits_b o a b c m ha.1 ha.2 hb.1 hb.2 hc.1 hc.2 w)
    (fun o a b c m ha hb hc w => rbits_all o a b c m ha.1 ha.2 hb.1 hb.2 hc.1 hc.2 w)
    (fun o a b c m ha hb hc w => rbits_a o a b c m ha.1 ha.2 hb.1 hb.2 hc.1 hc.2 w)
    (fun o a b c m ha hb hc w => rbits_a o a b c m ha.1 ha.2 hb.1 hb.2 hc.1 hc.2 w)
    (fun o a b c m ha hb hc w => rbits_a o a b c m ha.1 ha.2 hb.1 hb.2 hc.1 hc.2 w)
    (fun o a b c m ha hb hc w => rbits_a o a b c m ha.1 ha.2 hb.1 hb.2 hc.1 hc.2 w)
    (fun o a b c m ha hb hc w => rbits_ab o a b c m ha.1 ha.2 hb.1 hb.2 hc.1 hc.2 w)
    (fun o a b c m ha hb hc w => rbits_a o a b c m ha.1 ha.2 hb.1 hb.2 hc.1 hc.2 w)
    (fun o a b c m ha hb hc w => rbits_a o a b c m ha.1 ha.2 hb.1 hb.2 hc.1 hc.2 w)
    (fun o a b c m ha hb hc w => rbits_ab o a b c m ha.1 ha.2 hb.1 hb.2 hc.1 hc.2 w)
    (fun o a b c m ha hb hc w => rbits_a o a b c m ha.1 ha.2 hb.1 hb.2 hc.1 hc.2 w)
    (fun o a b c m ha hb hc w => rbits_a o a b c m ha.1 ha.2 hb.1 hb.2 hc.1 hc.2 w)
    (fun o a b c m ha hb hc w => rbits_a o a b c m ha.1 ha.2 hb.1 hb.2 hc.1 hc.2 w)
    (fun o a b c m ha hb hc w => rbits_a o a b c m ha.1 ha.2 hb.1 hb.2 hc.1 hc.2 w)
    (fun o a b c m ha hb hc w => rbits_b o a b c m ha.1 ha.2 hb.1 hb.2 hc.1 hc.2 w)
    (fun o a b c m ha hb hc w => rbits_ab o a b c m ha.1 ha.2 hb.1 hb.2 hc.1 hc.2 w)
    (fun o a b c m ha hb hc w => rbits_abc o a b c m ha.1 ha.2 hb.1 hb.2 hc.1 hc.2 w)
    (fun o a b c m ha hb hc w => rbits_bc o a b c m ha.1 ha.2 hb.1 hb.2 hc.1 hc.2 w)
    (fun o a b c m ha hb hc w => rbits_n o a b c m ha.1 ha.2 hb.1 hb.2 hc.1 hc.2 w)
    (fun o a b c m ha hb hc w => rbits_a o a b c m ha.1 ha.2 hb.1 hb.2 hc.1 hc.2 w)
    (fun o a b c m ha hb hc w => rbits_ab o a b c m ha.1 ha.2 hb.1 hb.2 hc.1 hc.2 w)
    (fun o a b c m ha hb hc w => rbits_c o a b c m ha.1 ha.2 hb.1 hb.2 hc.1 hc.2 w)
    (fun o a b c m ha hb hc w => rbits_bc o a b c m ha.1 ha.2 hb.1 hb.2 hc.1 hc.2 w)
    (fun o a b c m ha hb hc w => rbits_bc o a b c m ha.1 ha.2 hb.1 hb.2 hc.1 hc.2 w)
    (fun o a b c m ha hb hc w => rbits_b o a b c m ha.1 ha.2 hb.1 hb.2 hc.1 hc.2 w)
    (fun o a b c m ha hb hc w => rbits_n o a b c m ha.1 ha.2 hb.1 hb.2 hc.1 hc.2 w)
theorem rbits_wrs : ∀ k, 1 ≤ k → k < 59 → ∀ (o a b c m : Int), (0 ≤ a ∧ a ≤ 15) → (0 ≤ b ∧ b ≤ 15) → (0 ≤ c ∧ c ≤ 15) → ∀ w : World, Calls Tryd.prog 29 #[.string (wr k), .agg #[.int .i64 o, .int .i64 a, .int .i64 b, .int .i64 c, .int .i64 m]] w fun e w' => e = .returned (.int .u16 (useV (wr k) a b c)) ∧ Gr w w' :=
  ops_all (P := fun k => ∀ (o a b c m : Int), (0 ≤ a ∧ a ≤ 15) → (0 ≤ b ∧ b ≤ 15) → (0 ≤ c ∧ c ≤ 15) → ∀ w : World, Calls Tryd.prog 29 #[.string (wr k), .agg #[.int .i64 o, .int .i64 a, .int .i64 b, .int .i64 c, .int .i64 m]] w fun e w' => e = .returned (.int .u16 (useV (wr k) a b c)) ∧ Gr w w')
    (fun o a b c m ha hb hc w => rbits_n o a b c m ha.1 ha.2 hb.1 hb.2 hc.1 hc.2 w)
    (fun o a b c m ha hb hc w => rbits_a o a b c m ha.1 ha.2 hb.1 hb.2 hc.1 hc.2 w)
    (fun o a b c m ha hb hc w => rbits_a o a b c m ha.1 ha.2 hb.1 hb.2 hc.1 hc.2 w)
    (fun o a b c m ha hb hc w => rbits_a o a b c m ha.1 ha.2 hb.1 hb.2 hc.1 hc.2 w)
    (fun o a b c m ha hb hc w => rbits_a o a b c m ha.1 ha.2 hb.1 hb.2 hc.1 hc.2 w)
    (fun o a b c m ha hb hc w => rbits_a o a b c m ha.1 ha.2 hb.1 hb.2 hc.1 hc.2 w)
    (fun o a b c m ha hb hc w => rbits_a o a b c m ha.1 ha.2 hb.1 hb.2 hc.1 hc.2 w)
    (fun o a b c m ha hb hc w => rbits_a o a b c m ha.1 ha.2 hb.1 hb.2 hc.1 hc.2 w)
    (fun o a b c m ha hb hc w => rbits_a o a b c m ha.1 ha.2 hb.1 hb.2 hc.1 hc.2 w)
    (fun o a b c m ha hb hc w => rbits_a o a b c m ha.1 ha.2 hb.1 hb.2 hc.1 hc.2 w)
    (fun o a b c m ha hb hc w => rbits_a o a b c m ha.1 ha.2 hb.1 hb.2 hc.1 hc.2 w)
    (fun o a b c m ha hb hc w => rbits_a o a b c m ha.1 ha.2 hb.1 hb.2 hc.1 hc.2 w)
    (fun o a b c m ha hb hc w => rbits_a o a b c m ha.1 ha.2 hb.1 hb.2 hc.1 hc.2 w)
    (fun o a b c m ha hb hc w => rbits_a o a b c m ha.1 ha.2 hb.1 hb.2 hc.1 hc.2 w)
    (fun o a b c m ha hb hc w => rbits_a o a b c m ha.1 ha.2 hb.1 hb.2 hc.1 hc.2 w)
    (fun o a b c m ha hb hc w => rbits_a o a b c m ha.1 ha.2 hb.1 hb.2 hc.1 hc.2 w)
    (fun o a b c m ha hb hc w => rbits_n o a b c m ha.1 ha.2 hb.1 hb.2 hc.1 hc.2 w)
    (fun o a b c m ha hb hc w => rbits_n o a b c m ha.1 ha.2 hb.1 hb.2 hc.1 hc.2 w)
    (fun o a b c m ha hb hc w => rbits_n o a b c m ha.1 ha.2 hb.1 hb.2 hc.1 hc.2 w)
    (fun o a b c m ha hb hc w => rbits_n o a b c m ha.1 ha.2 hb.1 hb.2 hc.1 hc.2 w)
    (fun o a b c m ha hb hc w => rbits_n o a b c m ha.1 ha.2 hb.1 hb.2 hc.1 hc.2 w)
    (fun o a b c m ha hb hc w => rbits_a o a b c m ha.1 ha.2 hb.1 hb.2 hc.1 hc.2 w)
    (fun o a b c m ha hb hc w => rbits_n o a b c m ha.1 ha.2 hb.1 hb.2 hc.1 hc.2 w)
    (fun o a b c m ha hb hc w => rbits_n o a b c m ha.1 ha.2 hb.1 hb.2 hc.1 hc.2 w)
    (fun o a b c m ha hb hc w => rbits_a o a b c m ha.1 ha.2 hb.1 hb.2 hc.1 hc.2 w)
    (fun o a b c m ha hb hc w => rbits_a o a b c m ha.1 ha.2 hb.1 hb.2 hc.1 hc.2 w)
    (fun o a b c m ha hb hc w => rbits_n o a b c m ha.1 ha.2 hb.1 hb.2 hc.1 hc.2 w)
    (fun o a b c m ha hb hc w => rbits_a o a b c m ha.1 ha.2 hb.1 hb.2 hc.1 hc.2 w)
    (fun o a b c m ha hb hc w => rbits_n o a b c m ha.1 ha.2 hb.1 hb.2 hc.1 hc.2 w)
    (fun o a b c m ha hb hc w => rbits_ab o a b c m ha.1 ha.2 hb.1 hb.2 hc.1 hc.2 w)
    (fun o a b c m ha hb hc w => rbits_n o a b c m ha.1 ha.2 hb.1 hb.2 hc.1 hc.2 w)
    (fun o a b c m ha hb hc w => rbits_a o a b c m ha.1 ha.2 hb.1 hb.2 hc.1 hc.2 w)
    (fun o a b c m ha hb hc w => rbits_a o a b c m ha.1 ha.2 hb.1 hb.2 hc.1 hc.2 w)
    (fun o a b c m ha hb hc w => rbits_all o a b c m ha.1 ha.2 hb.1 hb.2 hc.1 hc.2 w)
    (fun o a b c m ha hb hc w => rbits_n o a b c m ha.1 ha.2 hb.1 hb.2 hc.1 hc.2 w)
    (fun o a b c m ha hb hc w => rbits_n o a b c m ha.1 ha.2 hb.1 hb.2 hc.1 hc.2 w)
    (fun o a b c m ha hb hc w => rbits_n o a b c m ha.1 ha.2 hb.1 hb.2 hc.1 hc.2 w)
    (fun o a b c m ha hb hc w => rbits_n o a b c m ha.1 ha.2 hb.1 hb.2 hc.1 hc.2 w)
    (fun o a b c m ha hb hc w => rbits_n o a b c m ha.1 ha.2 hb.1 hb.2 hc.1 hc.2 w)
    (fun o a b c m ha hb hc w => rbits_n o a b c m ha.1 ha.2 hb.1 hb.2 hc.1 hc.2 w)
    (fun o a b c m ha hb hc w => rbits_n o a b c m ha.1 ha.2 hb.1 hb.2 hc.1 hc.2 w)
    (fun o a b c m ha hb hc w => rbits_n o a b c m ha.1 ha.2 hb.1 hb.2 hc.1 hc.2 w)
    (fun o a b c m ha hb hc w => rbits_n o a b c m ha.1 ha.2 hb.1 hb.2 hc.1 hc.2 w)
    (fun o a b c m ha hb hc w => rbits_n o a b c m ha.1 ha.2 hb.1 hb.2 hc.1 hc.2 w)
    (fun o a b c m ha hb hc w => rbits_n o a b c m ha.1 ha.2 hb.1 hb.2 hc.1 hc.2 w)
    (fun o a b c m ha hb hc w => rbits_n o a b c m ha.1 ha.2 hb.1 hb.2 hc.1 hc.2 w)
    (fun o a b c m ha hb hc w => rbits_a o a b c m ha.1 ha.2 hb.1 hb.2 hc.1 hc.2 w)
    (fun o a b c m ha hb hc w => rbits_n o a b c m ha.1 ha.2 hb.1 hb.2 hc.1 hc.2 w)
    (fun o a b c m ha hb hc w => rbits_a o a b c m ha.1 ha.2 hb.1 hb.2 hc.1 hc.2 w)
    (fun o a b c m ha hb hc w => rbits_a o a b c m ha.1 ha.2 hb.1 hb.2 hc.1 hc.2 w)
    (fun o a b c m ha hb hc w => rbits_ab o a b c m ha.1 ha.2 hb.1 hb.2 hc.1 hc.2 w)
    (fun o a b c m ha hb hc w => rbits_n o a b c m ha.1 ha.2 hb.1 hb.2 hc.1 hc.2 w)
    (fun o a b c m ha hb hc w => rbits_c o a b c m ha.1 ha.2 hb.1 hb.2 hc.1 hc.2 w)
    (fun o a b c m ha hb hc w => rbits_ab o a b c m ha.1 ha.2 hb.1 hb.2 hc.1 hc.2 w)
    (fun o a b c m ha hb hc w => rbits_a o a b c m ha.1 ha.2 hb.1 hb.2 hc.1 hc.2 w)
    (fun o a b c m ha hb hc w => rbits_a o a b c m ha.1 ha.2 hb.1 hb.2 hc.1 hc.2 w)
    (fun o a b c m ha hb hc w => rbits_a o a b c m ha.1 ha.2 hb.1 hb.2 hc.1 hc.2 w)
    (fun o a b c m ha hb hc w => rbits_n o a b c m ha.1 ha.2 hb.1 hb.2 hc.1 hc.2 w)
end Go.Proofs.YtcdlhfodeckleabDoor.Wd
