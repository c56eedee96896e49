/-
  What the program's registers answers, for each number that its table holds. Condition: registers are 0 to 15.
-/
import Derived.Test.YtejmmpgclgdbbaaDoorWdLists
namespace Go.Proofs.YtejmmpgclgdbbaaDoor.Wd
open Go.RowKit

/-- the bits of the registers that a text of fields names -/
def useV (t : ByteArray) (a b c : Int) : Int :=
  if t = { data := #[] } then 0 else
  if t = { data := #[42] } then 65535 else
  if t = { data := #[97] } then (bits .or .u16 0 (IntKind.u16.wrap (2 ^ a.toNat))) else
  if t = { data := #[98] } then (bits .or .u16 0 (IntKind.u16.wrap (2 ^ b.toNat))) else
  if t = { data := #[99] } then (bits .or .u16 0 (IntKind.u16.wrap (2 ^ c.toNat))) else
  if t = { data := #[97, 98] } then (bits .or .u16 (bits .or .u16 0 (IntKind.u16.wrap (2 ^ a.toNat))) (IntKind.u16.wrap (2 ^ b.toNat))) else
  if t = { data := #[98, 99] } then (bits .or .u16 (bits .or .u16 0 (IntKind.u16.wrap (2 ^ b.toNat))) (IntKind.u16.wrap (2 ^ c.toNat))) else
  if t = { data := #[97, 98, 99] } then (bits .or .u16 (bits .or .u16 (bits .or .u16 0 (IntKind.u16.wrap (2 ^ a.toNat))) (IntKind.u16.wrap (2 ^ b.toNat))) (IntKind.u16.wrap (2 ^ c.toNat))) else
  0
theorem useV_n (a b c : Int) : useV { data := #[] } a b c = 0 := by
  unfold useV
  simp
theorem useV_all (a b c : Int) : useV { data := #[42] } a b c = 65535 := by
  unfold useV
  simp
theorem useV_a (a b c : Int) : useV { data := #[97] } a b c = (bits .or .u16 0 (IntKind.u16.wrap (2 ^ a.toNat))) := by
  unfold useV
  simp
theorem useV_b (a b c : Int) : useV { data := #[98] } a b c = (bits .or .u16 0 (IntKind.u16.wrap (2 ^ b.toNat))) := by
  unfold useV
  simp
theorem useV_c (a b c : Int) : useV { data := #[99] } a b c = (bits .or .u16 0 (IntKind.u16.wrap (2 ^ c.toNat))) := by
  unfold useV
  simp
theorem useV_ab (a b c : Int) : useV { data := #[97, 98] } a b c = (bits .or .u16 (bits .or .u16 0 (IntKind.u16.wrap (2 ^ a.toNat))) (IntKind.u16.wrap (2 ^ b.toNat))) := by
  unfold useV
  simp
theorem useV_bc (a b c : Int) : useV { data := #[98, 99] } a b c = (bits .or .u16 (bits .or .u16 0 (IntKind.u16.wrap (2 ^ b.toNat))) (IntKind.u16.wrap (2 ^ c.toNat))) := by
  unfold useV
  simp
theorem useV_abc (a b c : Int) : useV { data := #[97, 98, 99] } a b c = (bits .or .u16 (bits .or .u16 (bits .or .u16 0 (IntKind.u16.wrap (2 ^ a.toNat))) (IntKind.u16.wrap (2 ^ b.toNat))) (IntKind.u16.wrap (2 ^ c.toNat))) := by
  unfold useV
  simp
set_option maxRecDepth 20000 in
theorem regs_0 (o a b c m : Int) (_a0 : 0 ≤ a) (_a1 : a ≤ 15) (_b0 : 0 ≤ b) (_b1 : b ≤ 15) (_c0 : 0 ≤ c) (_c1 : c ≤ 15) (w : World) :
    Calls Tryd.prog 35 #[.agg #[.int .i64 o, .int .i64 a, .int .i64 b, .int .i64 c, .int .i64 m], .int .u16 0] w fun e w' => e = .returned (.int .u16 (useV { data := #[] } a b c)) ∧ Gr w w' := by
  rw [useV_n]
  have ix0 : ∀ w' : World, Sem.run Tryd.prog (Instr.index 66 (.agg #[.int .i64 a, .int .i64 b, .int .i64 c]) (.int .i64 0)) w' = .ok (.int .i64 a) w' := fun _ => by kernel_rfl
  have ix1 : ∀ w' : World, Sem.run Tryd.prog (Instr.index 66 (.agg #[.int .i64 a, .int .i64 b, .int .i64 c]) (.int .i64 1)) w' = .ok (.int .i64 b) w' := fun _ => by kernel_rfl
  have ix2 : ∀ w' : World, Sem.run Tryd.prog (Instr.index 66 (.agg #[.int .i64 a, .int .i64 b, .int .i64 c]) (.int .i64 2)) w' = .ok (.int .i64 c) w' := fun _ => by kernel_rfl
  go_enter Tryd.func35, Tryd.ntmps35
  go_wp2_with fail
  go_rounds 4
  go_ret
  exact ⟨rfl, (Gr.refl _).alloc _ _⟩
set_option maxRecDepth 20000 in
theorem regs_1 (o a b c m : Int) (_a0 : 0 ≤ a) (_a1 : a ≤ 15) (_b0 : 0 ≤ b) (_b1 : b ≤ 15) (_c0 : 0 ≤ c) (_c1 : c ≤ 15) (w : World) :
    Calls Tryd.prog 35 #[.agg #[.int .i64 o, .int .i64 a, .int .i64 b, .int .i64 c, .int .i64 m], .int .u16 1] w fun e w' => e = .returned (.int .u16 (useV { data := #[97] } a b c)) ∧ Gr w w' := by
  rw [useV_a]
  have ix0 : ∀ w' : World, Sem.run Tryd.prog (Instr.index 66 (.agg #[.int .i64 a, .int .i64 b, .int .i64 c]) (.int .i64 0)) w' = .ok (.int .i64 a) w' := fun _ => by kernel_rfl
  have ix1 : ∀ w' : World, Sem.run Tryd.prog (Instr.index 66 (.agg #[.int .i64 a, .int .i64 b, .int .i64 c]) (.int .i64 1)) w' = .ok (.int .i64 b) w' := fun _ => by kernel_rfl
  have ix2 : ∀ w' : World, Sem.run Tryd.prog (Instr.index 66 (.agg #[.int .i64 a, .int .i64 b, .int .i64 c]) (.int .i64 2)) w' = .ok (.int .i64 c) w' := fun _ => by kernel_rfl
  go_enter Tryd.func35, Tryd.ntmps35
  go_wp2_with fail
  go_rounds 4
  go_ret
  exact ⟨rfl, (Gr.refl _).alloc _ _⟩
set_option maxRecDepth 20000 in
theorem regs_3 (o a b c m : Int) (_a0 : 0 ≤ a) (_a1 : a ≤ 15) (_b0 : 0 ≤ b) (_b1 : b ≤ 15) (_c0 : 0 ≤ c) (_c1 : c ≤ 15) (w : World) :
    Calls Tryd.prog 35 #[.agg #[.int .i64 o, .int .i64 a, .int .i64 b, .int .i64 c, .int .i64 m], .int .u16 3] w fun e w' => e = .returned (.int .u16 (useV { data := #[97, 98] } a b c)) ∧ Gr w w' := by
  rw [useV_ab]
  have ix0 : ∀ w' : World, Sem.run Tryd.prog (Instr.index 66 (.agg #[.int .i64 a, .int .i64 b, .int .i64 c]) (.int .i64 0)) w' = .ok (.int .i64 a) w' := fun _ => by kernel_rfl
  have ix1 : ∀ w' : World, Sem.run Tryd.prog (Instr.index 66 (.agg #[.int .i64 a, .int .i64 b, .int .i64 c]) (.int .i64 1)) w' = .ok (.int .i64 b) w' := fun _ => by kernel_rfl
  have ix2 : ∀ w' : World, Sem.run Tryd.prog (Instr.index 66 (.agg #[.int .i64 a, .int .i64 b, .int .i64 c]) (.int .i64 2)) w' = .ok (.int .i64 c) w' := fun _ => by kernel_rfl
  go_enter Tryd.func35, Tryd.ntmps35
  go_wp2_with fail
  go_rounds 4
  go_ret
  exact ⟨rfl, (Gr.refl _).alloc _ _⟩
set_option maxRecDepth 20000 in
theorem regs_4 (o a b c m : Int) (_a0 : 0 ≤ a) (_a1 : a ≤ 15) (_b0 : 0 ≤ b) (_b1 : b ≤ 15) (_c0 : 0 ≤ c) (_c1 : c ≤ 15) (w : World) :
    Calls Tryd.prog 35 #[.agg #[.int .i64 o, .int .i64 a, .int .i64 b, .int .i64 c, .int .i64 m], .int .u16 4] w fun e w' => e = .returned (.int .u16 (useV { data := #[99] } a b c)) ∧ Gr w w' := by
  rw [useV_c]
  have ix0 : ∀ w' : World, Sem.run Tryd.prog (Instr.index 66 (.agg #[.int .i64 a, .int .i64 b, .int .i64 c]) (.int .i64 0)) w' = .ok (.int .i64 a) w' := fun _ => by kernel_rfl
  have ix1 : ∀ w' : World, Sem.run Tryd.prog (Instr.index 66 (.agg #[.int .i64 a, .int .i64 b, .int .i64 c]) (.int .i64 1)) w' = .ok (.int .i64 b) w' := fun _ => by kernel_rfl
  have ix2 : ∀ w' : World, Sem.run Tryd.prog (Instr.index 66 (.agg #[.int .i64 a, .int .i64 b, .int .i64 c]) (.int .i64 2)) w' = .ok (.int .i64 c) w' := fun _ => by kernel_rfl
  go_enter Tryd.func35, Tryd.ntmps35
  go_wp2_with fail
  go_rounds 4
  go_ret
  exact ⟨rfl, (Gr.refl _).alloc _ _⟩
set_option maxRecDepth 20000 in
theorem regs_8 (o a b c m : Int) (_a0 : 0 ≤ a) (_a1 : a ≤ 15) (_b0 : 0 ≤ b) (_b1 : b ≤ 15) (_c0 : 0 ≤ c) (_c1 : c ≤ 15) (w : World) :
    Calls Tryd.prog 35 #[.agg #[.int .i64 o, .int .i64 a, .int .i64 b, .int .i64 c, .int .i64 m], .int .u16 8] w fun e w' => e = .returned (.int .u16 (useV { data := #[42] } a b c)) ∧ Gr w w' := by
  rw [useV_all]
  have ix0 : ∀ w' : World, Sem.run Tryd.prog (Instr.index 66 (.agg #[.int .i64 a, .int .i64 b, .int .i64 c]) (.int .i64 0)) w' = .ok (.int .i64 a) w' := fun _ => by kernel_rfl
  have ix1 : ∀ w' : World, Sem.run Tryd.prog (Instr.index 66 (.agg #[.int .i64 a, .int .i64 b, .int .i64 c]) (.int .i64 1)) w' = .ok (.int .i64 b) w' := fun _ => by kernel_rfl
  have ix2 : ∀ w' : World, Sem.run Tryd.prog (Instr.index 66 (.agg #[.int .i64 a, .int .i64 b, .int .i64 c]) (.int .i64 2)) w' = .ok (.int .i64 c) w' := fun _ => by kernel_rfl
  go_enter Tryd.func35, Tryd.ntmps35
  go_wp2_with fail
  go_rounds 4
  go_ret
  exact ⟨rfl, (Gr.refl _).alloc _ _⟩
set_option maxRecDepth 20000 in
theorem regs_16 (o a b c m : Int) (_a0 : 0 ≤ a) (_a1 : a ≤ 15) (_b0 : 0 ≤ b) (_b1 : b ≤ 15) (_c0 : 0 ≤ c) (_c1 : c ≤ 15) (w : World) :
    Calls Tryd.prog 35 #[.agg #[.int .i64 o, .int .i64 a, .int .i64 b, .int .i64 c, .int .i64 m], .int .u16 16] w fun e w' => e = .returned (.int .u16 (useV { data := #[] } a b c)) ∧ Gr w w' := by
  rw [useV_n]
  have ix0 : ∀ w' : World, Sem.run Tryd.prog (Instr.index 66 (.agg #[.int .i64 a, .int .i64 b, .int .i64 c]) (.int .i64 0)) w' = .ok (.int .i64 a) w' := fun _ => by kernel_rfl
  have ix1 : ∀ w' : World, Sem.run Tryd.prog (Instr.index 66 (.agg #[.int .i64 a, .int .i64 b, .int .i64 c]) (.int .i64 1)) w' = .ok (.int .i64 b) w' := fun _ => by kernel_rfl
  have ix2 : ∀ w' : World, Sem.run Tryd.prog (Instr.index 66 (.agg #[.int .i64 a, .int .i64 b, .int .i64 c]) (.int .i64 2)) w' = .ok (.int .i64 c) w' := fun _ => by kernel_rfl
  go_enter Tryd.func35, Tryd.ntmps35
  go_wp2_with fail
  go_rounds 4
  go_ret
  exact ⟨rfl, (Gr.refl _).alloc _ _⟩
set_option maxRecDepth 20000 in
theorem regs_17 (o a b c m : Int) (_a0 : 0 ≤ a) (_a1 : a ≤ 15) (_b0 : 0 ≤ b) (_b1 : b ≤ 15) (_c0 : 0 ≤ c) (_c1 : c ≤ 15) (w : World) :
    Calls Tryd.prog 35 #[.agg #[.int .i64 o, .int .i64 a, .int .i64 b, .int .i64 c, .int .i64 m], .int .u16 17] w fun e w' => e = .returned (.int .u16 (useV { data := #[97] } a b c)) ∧ Gr w w' := by
  rw [useV_a]
  have ix0 : ∀ w' : World, Sem.run Tryd.prog (Instr.index 66 (.agg #[.int .i64 a, .int .i64 b, .int .i64 c]) (.int .i64 0)) w' = .ok (.int .i64 a) w' := fun _ => by kernel_rfl
  have ix1 : ∀ w' : World, Sem.run Tryd.prog (Instr.index 66 (.agg #[.int .i64 a, .int .i64 b, .int .i64 c]) (.int .i64 1)) w' = .ok (.int .i64 b) w' := fun _ => by kernel_rfl
  have ix2 : ∀ w' : World, Sem.run Tryd.prog (Instr.index 66 (.agg #[.int .i64 a, .int .i64 b, .int .i64 c]) (.int .i64 2)) w' = .ok (.int .i64 c) w' := fun _ => by kernel_rfl
  go_enter Tryd.func35, Tryd.ntmps35
  go_wp2_with fail
  go_rounds 4
  go_ret
  exact ⟨rfl, (Gr.refl _).alloc _ _⟩
set_option maxRecDepth 20000 in
theorem regs_18 (o a b c m : Int) (_a0 : 0 ≤ a) (_a1 : a ≤ 15) (_b0 : 0 ≤ b) (_b1 : b ≤ 15) (_c0 : 0 ≤ c) (_c1 : c ≤ 15) (w : World) :
    Calls Tryd.prog 35 #[.agg #[.int .i64 o, .int .i64 a, .int .i64 b, .int .i64 c, .int .i64 m], .int .u16 18] w fun e w' => e = .returned (.int .u16 (useV { data := #[98] } a b c)) ∧ Gr w w' := by
  rw [useV_b]
  have ix0 : ∀ w' : World, Sem.run Tryd.prog (Instr.index 66 (.agg #[.int .i64 a, .int .i64 b, .int .i64 c]) (.int .i64 0)) w' = .ok (.int .i64 a) w' := fun _ => by kernel_rfl
  have ix1 : ∀ w' : World, Sem.run Tryd.prog (Instr.index 66 (.agg #[.int .i64 a, .int .i64 b, .int .i64 c]) (.int .i64 1)) w' = .ok (.int .i64 b) w' := fun _ => by kernel_rfl
  have ix2 : ∀ w' : World, Sem.run Tryd.prog (Instr.index 66 (.agg #[.int .i64 a, .int .i64 b, .int .i64 c]) (.int .i64 2)) w' = .ok (.int .i64 c) w' := fun _ => by kernel_rfl
  go_enter Tryd.func35, Tryd.ntmps35
  go_wp2_with fail
  go_rounds 4
  go_ret
  exact ⟨rfl, (Gr.refl _).alloc _ _⟩
set_option maxRecDepth 20000 in
theorem regs_22 (o a b c m : Int) (_a0 : 0 ≤ a) (_a1 : a ≤ 15) (_b0 : 0 ≤ b) (_b1 : b ≤ 15) (_c0 : 0 ≤ c) (_c1 : c ≤ 15) (w : World) :
    Calls Tryd.prog 35 #[.agg #[.int .i64 o, .int .i64 a, .int .i64 b, .int .i64 c, .int .i64 m], .int .u16 22] w fun e w' => e = .returned (.int .u16 (useV { data := #[98, 99] } a b c)) ∧ Gr w w' := by
  rw [useV_bc]
  have ix0 : ∀ w' : World, Sem.run Tryd.prog (Instr.index 66 (.agg #[.int .i64 a, .int .i64 b, .int .i64 c]) (.int .i64 0)) w' = .ok (.int .i64 a) w' := fun _ => by kernel_rfl
  have ix1 : ∀ w' : World, Sem.run Tryd.prog (Instr.index 66 (.agg #[.int .i64 a, .int .i64 b, .int .i64 c]) (.int .i64 1)) w' = .ok (.int .i64 b) w' := fun _ => by kernel_rfl
  have ix2 : ∀ w' : World, Sem.run Tryd.prog (Instr.index 66 (.agg #[.int .i64 a, .int .i64 b, .int .i64 c]) (.int .i64 2)) w' = .ok (.int .i64 c) w' := fun _ => by kernel_rfl
  go_enter Tryd.func35, Tryd.ntmps35
  go_wp2_with fail
  go_rounds 4
  go_ret
  exact ⟨rfl, (Gr.refl _).alloc _ _⟩
set_option maxRecDepth 20000 in
theorem regs_23 (o a b c m : Int) (_a0 : 0 ≤ a) (_a1 : a ≤ 15) (_b0 : 0 ≤ b) (_b1 : b ≤ 15) (_c0 : 0 ≤ c) (_c1 : c ≤ 15) (w : World) :
    Calls Tryd.prog 35 #[.agg #[.int .i64 o, .int .i64 a, .int .i64 b, .int .i64 c, .int .i64 m], .int .u16 23] w fun e w' => e = .returned (.int .u16 (useV { data := #[97, 98, 99] } a b c)) ∧ Gr w w' := by
  rw [useV_abc]
  have ix0 : ∀ w' : World, Sem.run Tryd.prog (Instr.index 66 (.agg #[.int .i64 a, .int .i64 b, .int .i64 c]) (.int .i64 0)) w' = .ok (.int .i64 a) w' := fun _ => by kernel_rfl
  have ix1 : ∀ w' : World, Sem.run Tryd.prog (Instr.index 66 (.agg #[.int .i64 a, .int .i64 b, .int .i64 c]) (.int .i64 1)) w' = .ok (.int .i64 b) w' := fun _ => by kernel_rfl
  have ix2 : ∀ w' : World, Sem.run Tryd.prog (Instr.index 66 (.agg #[.int .i64 a, .int .i64 b, .int .i64 c]) (.int .i64 2)) w' = .ok (.int .i64 c) w' := fun _ => by kernel_rfl
  go_enter Tryd.func35, Tryd.ntmps35
  go_wp2_with fail
  go_rounds 4
  go_ret
  exact ⟨rfl, (Gr.refl _).alloc _ _⟩
set_option maxRecDepth 20000 in
theorem regs_24 (o a b c m : Int) (_a0 : 0 ≤ a) (_a1 : a ≤ 15) (_b0 : 0 ≤ b) (_b1 : b ≤ 15) (_c0 : 0 ≤ c) (_c1 : c ≤ 15) (w : World) :
    Calls Tryd.prog 35 #[.agg #[.int .i64 o, .int .i64 a, .int .i64 b, .int .i64 c, .int .i64 m], .int .u16 24] w fun e w' => e = .returned (.int .u16 (useV { data := #[42] } a b c)) ∧ Gr w w' := by
  rw [useV_all]
  have ix0 : ∀ w' : World, Sem.run Tryd.prog (Instr.index 66 (.agg #[.int .i64 a, .int .i64 b, .int .i64 c]) (.int .i64 0)) w' = .ok (.int .i64 a) w' := fun _ => by kernel_rfl
  have ix1 : ∀ w' : World, Sem.run Tryd.prog (Instr.index 66 (.agg #[.int .i64 a, .int .i64 b, .int .i64 c]) (.int .i64 1)) w' = .ok (.int .i64 b) w' := fun _ => by kernel_rfl
  have ix2 : ∀ w' : World, Sem.run Tryd.prog (Instr.index 66 (.agg #[.int .i64 a, .int .i64 b, .int .i64 c]) (.int .i64 2)) w' = .ok (.int .i64 c) w' := fun _ => by kernel_rfl
  go_enter Tryd.func35, Tryd.ntmps35
  go_wp2_with fail
  go_rounds 4
  go_ret
  exact ⟨rfl, (Gr.refl _).alloc _ _⟩
set_option maxRecDepth 20000 in
theorem regs_48 (o a b c m : Int) (_a0 : 0 ≤ a) (_a1 : a ≤ 15) (_b0 : 0 ≤ b) (_b1 : b ≤ 15) (_c0 : 0 ≤ c) (_c1 : c ≤ 15) (w : World) :
    Calls Tryd.prog 35 #[.agg #[.int .i64 o, .int .i64 a, .int .i64 b, .int .i64 c, .int .i64 m], .int .u16 48] w fun e w' => e = .returned (.int .u16 (useV { data := #[] } a b c)) ∧ Gr w w' := by
  rw [useV_n]
  have ix0 : ∀ w' : World, Sem.run Tryd.prog (Instr.index 66 (.agg #[.int .i64 a, .int .i64 b, .int .i64 c]) (.int .i64 0)) w' = .ok (.int .i64 a) w' := fun _ => by kernel_rfl
  have ix1 : ∀ w' : World, Sem.run Tryd.prog (Instr.index 66 (.agg #[.int .i64 a, .int .i64 b, .int .i64 c]) (.int .i64 1)) w' = .ok (.int .i64 b) w' := fun _ => by kernel_rfl
  have ix2 : ∀ w' : World, Sem.run Tryd.prog (Instr.index 66 (.agg #[.int .i64 a, .int .i64 b, .int .i64 c]) (.int .i64 2)) w' = .ok (.int .i64 c) w' := fun _ => by kernel_rfl
  go_enter Tryd.func35, Tryd.ntmps35
  go_wp2_with fail
  go_rounds 4
  go_ret
  exact ⟨rfl, (Gr.refl _).alloc _ _⟩
set_option maxRecDepth 20000 in
theorem regs_52 (o a b c m : Int) (_a0 : 0 ≤ a) (_a1 : a ≤ 15) (_b0 : 0 ≤ b) (_b1 : b ≤ 15) (_c0 : 0 ≤ c) (_c1 : c ≤ 15) (w : World) :
    Calls Tryd.prog 35 #[.agg #[.int .i64 o, .int .i64 a, .int .i64 b, .int .i64 c, .int .i64 m], .int .u16 52] w fun e w' => e = .returned (.int .u16 (useV { data := #[99] } a b c)) ∧ Gr w w' := by
  rw [useV_c]
  have ix0 : ∀ w' : World, Sem.run Tryd.prog (Instr.index 66 (.agg #[.int .i64 a, .int .i64 b, .int .i64 c]) (.int .i64 0)) w' = .ok (.int .i64 a) w' := fun _ => by kernel_rfl
  have ix1 : ∀ w' : World, Sem.run Tryd.prog (Instr.index 66 (.agg #[.int .i64 a, .int .i64 b, .int .i64 c]) (.int .i64 1)) w' = .ok (.int .i64 b) w' := fun _ => by kernel_rfl
  have ix2 : ∀ w' : World, Sem.run Tryd.prog (Instr.index 66 (.agg #[.int .i64 a, .int .i64 b, .int .i64 c]) (.int .i64 2)) w' = .ok (.int .i64 c) w' := fun _ => by kernel_rfl
  go_enter Tryd.func35, Tryd.ntmps35
  go_wp2_with fail
  go_rounds 4
  go_ret
  exact ⟨rfl, (Gr.refl _).alloc _ _⟩
set_option maxRecDepth 20000 in
theorem regs_67 (o a b c m : Int) (_a0 : 0 ≤ a) (_a1 : a ≤ 15) (_b0 : 0 ≤ b) (_b1 : b ≤ 15) (_c0 : 0 ≤ c) (_c1 : c ≤ 15) (w : World) :
    Calls Tryd.prog 35 #[.agg #[.int .i64 o, .int .i64 a, .int .i64 b, .int .i64 c, .int .i64 m], .int .u16 67] w fun e w' => e = .returned (.int .u16 (useV { data := #[97, 98] } a b c)) ∧ Gr w w' := by
  rw [useV_ab]
  have ix0 : ∀ w' : World, Sem.run Tryd.prog (Instr.index 66 (.agg #[.int .i64 a, .int .i64 b, .int .i64 c]) (.int .i64 0)) w' = .ok (.int .i64 a) w' := fun _ => by kernel_rfl
  have ix1 : ∀ w' : World, Sem.run Tryd.prog (Instr.index 66 (.agg #[.int .i64 a, .int .i64 b, .int .i64 c]) (.int .i64 1)) w' = .ok (.int .i64 b) w' := fun _ => by kernel_rfl
  have ix2 : ∀ w' : World, Sem.run Tryd.prog (Instr.index 66 (.agg #[.int .i64 a, .int .i64 b, .int .i64 c]) (.int .i64 2)) w' = .ok (.int .i64 c) w' := fun _ => by kernel_rfl
  go_enter Tryd.func35, Tryd.ntmps35
  go_wp2_with fail
  go_rounds 4
  go_ret
  exact ⟨rfl, (Gr.refl _).alloc _ _⟩
set_option maxRecDepth 20000 in
theorem regs_136 (o a b c m : Int) (_a0 : 0 ≤ a) (_a1 : a ≤ 15) (_b0 : 0 ≤ b) (_b1 : b ≤ 15) (_c0 : 0 ≤ c) (_c1 : c ≤ 15) (w : World) :
    Calls Tryd.prog 35 #[.agg #[.int .i64 o, .int .i64 a, .int .i64 b, .int .i64 c, .int .i64 m], .int .u16 136] w fun e w' => e = .returned (.int .u16 (useV { data := #[42] } a b c)) ∧ Gr w w' := by
  rw [useV_all]
  have ix0 : ∀ w' : World, Sem.run Tryd.prog (Instr.index 66 (.agg #[.int .i64 a, .int .i64 b, .int .i64 c]) (.int .i64 0)) w' = .ok (.int .i64 a) w' := fun _ => by kernel_rfl
  have ix1 : ∀ w' : World, Sem.run Tryd.prog (Instr.index 66 (.agg #[.int .i64 a, .int .i64 b, .int .i64 c]) (.int .i64 1)) w' = .ok (.int .i64 b) w' := fun _ => by kernel_rfl
  have ix2 : ∀ w' : World, Sem.run Tryd.prog (Instr.index 66 (.agg #[.int .i64 a, .int .i64 b, .int .i64 c]) (.int .i64 2)) w' = .ok (.int .i64 c) w' := fun _ => by kernel_rfl
  go_enter Tryd.func35, Tryd.ntmps35
  go_wp2_with fail
  go_rounds 4
  go_ret
  exact ⟨rfl, (Gr.refl _).alloc _ _⟩
/-- of an operation: what it reads and what it writes -/
theorem regs_rd : ∀ k, 1 ≤ k → k < 59 → ∀ (o a b c m : Int), (0 ≤ a ∧ a ≤ 15) → (0 ≤ b ∧ b ≤ 15) → (0 ≤ c ∧ c ≤ 15) → ∀ w : World, Calls Tryd.prog 35 #[.agg #[.int .i64 o, .int .i64 a, .int .i64 b, .int .i64 c, .int .i64 m], .int .u16 (nu k / 128)] w fun e w' => e = .returned (.int .u16 (useV (rd k) a b c)) ∧ Gr w w' :=
  ops_all (P := fun k => ∀ (o a b c m : Int), (0 ≤ a ∧ a ≤ 15) → (0 ≤ b ∧ b ≤ 15) → (0 ≤ c ∧ c ≤ 15) → ∀ w : World, Calls Tryd.prog 35 #[.agg #[.int .i64 o, .int .i64 a, .int .i64 b, .int .i64 c, .int .i64 m], .int .u16 (nu k / 128)] w fun e w' => e = .returned (.int .u16 (useV (rd k) a b c)) ∧ Gr w w')
    (fun o a b c m ha hb hc w => regs_0 o a b c m ha.1 ha.2 hb.1 hb.2 hc.1 hc.2 w)
    (fun o a b c m ha hb hc w => regs_16 o a b c m ha.1 ha.2 hb.1 hb.2 hc.1 hc.2 w)
    (fun o a b c m ha hb hc w => regs_17 o a b c m ha.1 ha.2 hb.1 hb.2 hc.1 hc.2 w)
    (fun o a b c m ha hb hc w => regs_18 o a b c m ha.1 ha.2 hb.1 hb.2 hc.1 hc.2 w)
    (fun o a b c m ha hb hc w => regs_22 o a b c m ha.1 ha.2 hb.1 hb.2 hc.1 hc.2 w)
    (fun o a b c m ha hb hc w => regs_22 o a b c m ha.1 ha.2 hb.1 hb.2 hc.1 hc.2 w)
    (fun o a b c m ha hb hc w => regs_22 o a b c m ha.1 ha.2 hb.1 hb.2 hc.1 hc.2 w)
    (fun o a b c m ha hb hc w => regs_22 o a b c m ha.1 ha.2 hb.1 hb.2 hc.1 hc.2 w)
    (fun o a b c m ha hb hc w => regs_22 o a b c m ha.1 ha.2 hb.1 hb.2 hc.1 hc.2 w)
    (fun o a b c m ha hb hc w => regs_22 o a b c m ha.1 ha.2 hb.1 hb.2 hc.1 hc.2 w)
    (fun o a b c m ha hb hc w => regs_22 o a b c m ha.1 ha.2 hb.1 hb.2 hc.1 hc.2 w)
    (fun o a b c m ha hb hc w => regs_22 o a b c m ha.1 ha.2 hb.1 hb.2 hc.1 hc.2 w)
    (fun o a b c m ha hb hc w => regs_22 o a b c m ha.1 ha.2 hb.1 hb.2 hc.1 hc.2 w)
    (fun o a b c m ha hb hc w => regs_22 o a b c m ha.1 ha.2 hb.1 hb.2 hc.1 hc.2 w)
    (fun o a b c m ha hb hc w => regs_22 o a b c m ha.1 ha.2 hb.1 hb.2 hc.1 hc.2 w)
    (fun o a b c m ha hb hc w => regs_22 o a b c m ha.1 ha.2 hb.1 hb.2 hc.1 hc.2 w)
    (fun o a b c m ha hb hc w => regs_0 o a b c m ha.1 ha.2 hb.1 hb.2 hc.1 hc.2 w)
    (fun o a b c m ha hb hc w => regs_1 o a b c m ha.1 ha.2 hb.1 hb.2 hc.1 hc.2 w)
    (fun o a b c m ha hb hc w => regs_1 o a b c m ha.1 ha.2 hb.1 hb.2 hc.1 hc.2 w)
    (fun o a b c m ha hb hc w => regs_0 o a b c m ha.1 ha.2 hb.1 hb.2 hc.1 hc.2 w)
    (fun o a b c m ha hb hc w => regs_0 o a b c m ha.1 ha.2 hb.1 hb.2 hc.1 hc.2 w)
    (fun o a b c m ha hb hc w => regs_24 o a b c m ha.1 ha.2 hb.1 hb.2 hc.1 hc.2 w)
    (fun o a b c m ha hb hc w => regs_0 o a b c m ha.1 ha.2 hb.1 hb.2 hc.1 hc.2 w)
    (fun o a b c m ha hb hc w => regs_0 o a b c m ha.1 ha.2 hb.1 hb.2 hc.1 hc.2 w)
    (fun o a b c m ha hb hc w => regs_16 o a b c m ha.1 ha.2 hb.1 hb.2 hc.1 hc.2 w)
    (fun o a b c m ha hb hc w => regs_16 o a b c m ha.1 ha.2 hb.1 hb.2 hc.1 hc.2 w)
    (fun o a b c m ha hb hc w => regs_1 o a b c m ha.1 ha.2 hb.1 hb.2 hc.1 hc.2 w)
    (fun o a b c m ha hb hc w => regs_18 o a b c m ha.1 ha.2 hb.1 hb.2 hc.1 hc.2 w)
    (fun o a b c m ha hb hc w => regs_3 o a b c m ha.1 ha.2 hb.1 hb.2 hc.1 hc.2 w)
    (fun o a b c m ha hb hc w => regs_52 o a b c m ha.1 ha.2 hb.1 hb.2 hc.1 hc.2 w)
    (fun o a b c m ha hb hc w => regs_1 o a b c m ha.1 ha.2 hb.1 hb.2 hc.1 hc.2 w)
    (fun o a b c m ha hb hc w => regs_18 o a b c m ha.1 ha.2 hb.1 hb.2 hc.1 hc.2 w)
    (fun o a b c m ha hb hc w => regs_18 o a b c m ha.1 ha.2 hb.1 hb.2 hc.1 hc.2 w)
    (fun o a b c m ha hb hc w => regs_136 o a b c m ha.1 ha.2 hb.1 hb.2 hc.1 hc.2 w)
    (fun o a b c m ha hb hc w => regs_1 o a b c m ha.1 ha.2 hb.1 hb.2 hc.1 hc.2 w)
    (fun o a b c m ha hb hc w => regs_1 o a b c m ha.1 ha.2 hb.1 hb.2 hc.1 hc.2 w)
    (fun o a b c m ha hb hc w => regs_1 o a b c m ha.1 ha.2 hb.1 hb.2 hc.1 hc.2 w)
    (fun o a b c m ha hb hc w => regs_1 o a b c m ha.1 ha.2 hb.1 hb.2 hc.1 hc.2 w)
    (fun o a b c m ha hb hc w => regs_3 o a b c m ha.1 ha.2 hb.1 hb.2 hc.1 hc.2 w)
    (fun o a b c m ha hb hc w => regs_1 o a b c m ha.1 ha.2 hb.1 hb.2 hc.1 hc.2 w)
    (fun o a b c m ha hb hc w => regs_1 o a b c m ha.1 ha.2 hb.1 hb.2 hc.1 hc.2 w)
    (fun o a b c m ha hb hc w => regs_3 o a b c m ha.1 ha.2 hb.1 hb.2 hc.1 hc.2 w)
    (fun o a b c m ha hb hc w => regs_1 o a b c m ha.1 ha.2 hb.1 hb.2 hc.1 hc.2 w)
    (fun o a b c m ha hb hc w => regs_1 o a b c m ha.1 ha.2 hb.1 hb.2 hc.1 hc.2 w)
    (fun o a b c m ha hb hc w => regs_1 o a b c m ha.1 ha.2 hb.1 hb.2 hc.1 hc.2 w)
    (fun o a b c m ha hb hc w => regs_1 o a b c m ha.1 ha.2 hb.1 hb.2 hc.1 hc.2 w)
    (fun o a b c m ha hb hc w => regs_18 o a b c m ha.1 ha.2 hb.1 hb.2 hc.1 hc.2 w)
    (fun o a b c m ha hb hc w => regs_3 o a b c m ha.1 ha.2 hb.1 hb.2 hc.1 hc.2 w)
    (fun o a b c m ha hb hc w => regs_23 o a b c m ha.1 ha.2 hb.1 hb.2 hc.1 hc.2 w)
    (fun o a b c m ha hb hc w => regs_22 o a b c m ha.1 ha.2 hb.1 hb.2 hc.1 hc.2 w)
    (fun o a b c m ha hb hc w => regs_48 o a b c m ha.1 ha.2 hb.1 hb.2 hc.1 hc.2 w)
    (fun o a b c m ha hb hc w => regs_1 o a b c m ha.1 ha.2 hb.1 hb.2 hc.1 hc.2 w)
    (fun o a b c m ha hb hc w => regs_67 o a b c m ha.1 ha.2 hb.1 hb.2 hc.1 hc.2 w)
    (fun o a b c m ha hb hc w => regs_52 o a b c m ha.1 ha.2 hb.1 hb.2 hc.1 hc.2 w)
    (fun o a b c m ha hb hc w => regs_22 o a b c m ha.1 ha.2 hb.1 hb.2 hc.1 hc.2 w)
    (fun o a b c m ha hb hc w => regs_22 o a b c m ha.1 ha.2 hb.1 hb.2 hc.1 hc.2 w)
    (fun o a b c m ha hb hc w => regs_18 o a b c m ha.1 ha.2 hb.1 hb.2 hc.1 hc.2 w)
    (fun o a b c m ha hb hc w => regs_0 o a b c m ha.1 ha.2 hb.1 hb.2 hc.1 hc.2 w)
theorem regs_wr : ∀ k, 1 ≤ k → k < 59 → ∀ (o a b c m : Int), (0 ≤ a ∧ a ≤ 15) → (0 ≤ b ∧ b ≤ 15) → (0 ≤ c ∧ c ≤ 15) → ∀ w : World, Calls Tryd.prog 35 #[.agg #[.int .i64 o, .int .i64 a, .int .i64 b, .int .i64 c, .int .i64 m], .int .u16 (nu k / 2048)] w fun e w' => e = .returned (.int .u16 (useV (wr k) a b c)) ∧ Gr w w' :=
  ops_all (P := fun k => ∀ (o a b c m : Int), (0 ≤ a ∧ a ≤ 15) → (0 ≤ b ∧ b ≤ 15) → (0 ≤ c ∧ c ≤ 15) → ∀ w : World, Calls Tryd.prog 35 #[.agg #[.int .i64 o, .int .i64 a, .int .i64 b, .int .i64 c, .int .i64 m], .int .u16 (nu k / 2048)] w fun e w' => e = .returned (.int .u16 (useV (wr k) a b c)) ∧ Gr w w')
    (fun o a b c m ha hb hc w => regs_0 o a b c m ha.1 ha.2 hb.1 hb.2 hc.1 hc.2 w)
    (fun o a b c m ha hb hc w => regs_1 o a b c m ha.1 ha.2 hb.1 hb.2 hc.1 hc.2 w)
    (fun o a b c m ha hb hc w => regs_1 o a b c m ha.1 ha.2 hb.1 hb.2 hc.1 hc.2 w)
    (fun o a b c m ha hb hc w => regs_1 o a b c m ha.1 ha.2 hb.1 hb.2 hc.1 hc.2 w)
    (fun o a b c m ha hb hc w => regs_1 o a b c m ha.1 ha.2 hb.1 hb.2 hc.1 hc.2 w)
    (fun o a b c m ha hb hc w => regs_1 o a b c m ha.1 ha.2 hb.1 hb.2 hc.1 hc.2 w)
    (fun o a b c m ha hb hc w => regs_1 o a b c m ha.1 ha.2 hb.1 hb.2 hc.1 hc.2 w)
    (fun o a b c m ha hb hc w => regs_1 o a b c m ha.1 ha.2 hb.1 hb.2 hc.1 hc.2 w)
    (fun o a b c m ha hb hc w => regs_1 o a b c m ha.1 ha.2 hb.1 hb.2 hc.1 hc.2 w)
    (fun o a b c m ha hb hc w => regs_1 o a b c m ha.1 ha.2 hb.1 hb.2 hc.1 hc.2 w)
    (fun o a b c m ha hb hc w => regs_1 o a b c m ha.1 ha.2 hb.1 hb.2 hc.1 hc.2 w)
    (fun o a b c m ha hb hc w => regs_1 o a b c m ha.1 ha.2 hb.1 hb.2 hc.1 hc.2 w)
    (fun o a b c m ha hb hc w => regs_1 o a b c m ha.1 ha.2 hb.1 hb.2 hc.1 hc.2 w)
    (fun o a b c m ha hb hc w => regs_1 o a b c m ha.1 ha.2 hb.1 hb.2 hc.1 hc.2 w)
    (fun o a b c m ha hb hc w => regs_1 o a b c m ha.1 ha.2 hb.1 hb.2 hc.1 hc.2 w)
    (fun o a b c m ha hb hc w => regs_1 o a b c m ha.1 ha.2 hb.1 hb.2 hc.1 hc.2 w)
    (fun o a b c m ha hb hc w => regs_0 o a b c m ha.1 ha.2 hb.1 hb.2 hc.1 hc.2 w)
    (fun o a b c m ha hb hc w => regs_0 o a b c m ha.1 ha.2 hb.1 hb.2 hc.1 hc.2 w)
    (fun o a b c m ha hb hc w => regs_0 o a b c m ha.1 ha.2 hb.1 hb.2 hc.1 hc.2 w)
    (fun o a b c m ha hb hc w => regs_0 o a b c m ha.1 ha.2 hb.1 hb.2 hc.1 hc.2 w)
    (fun o a b c m ha hb hc w => regs_0 o a b c m ha.1 ha.2 hb.1 hb.2 hc.1 hc.2 w)
    (fun o a b c m ha hb hc w => regs_1 o a b c m ha.1 ha.2 hb.1 hb.2 hc.1 hc.2 w)
    (fun o a b c m ha hb hc w => regs_0 o a b c m ha.1 ha.2 hb.1 hb.2 hc.1 hc.2 w)
    (fun o a b c m ha hb hc w => regs_0 o a b c m ha.1 ha.2 hb.1 hb.2 hc.1 hc.2 w)
    (fun o a b c m ha hb hc w => regs_1 o a b c m ha.1 ha.2 hb.1 hb.2 hc.1 hc.2 w)
    (fun o a b c m ha hb hc w => regs_1 o a b c m ha.1 ha.2 hb.1 hb.2 hc.1 hc.2 w)
    (fun o a b c m ha hb hc w => regs_0 o a b c m ha.1 ha.2 hb.1 hb.2 hc.1 hc.2 w)
    (fun o a b c m ha hb hc w => regs_1 o a b c m ha.1 ha.2 hb.1 hb.2 hc.1 hc.2 w)
    (fun o a b c m ha hb hc w => regs_0 o a b c m ha.1 ha.2 hb.1 hb.2 hc.1 hc.2 w)
    (fun o a b c m ha hb hc w => regs_3 o a b c m ha.1 ha.2 hb.1 hb.2 hc.1 hc.2 w)
    (fun o a b c m ha hb hc w => regs_0 o a b c m ha.1 ha.2 hb.1 hb.2 hc.1 hc.2 w)
    (fun o a b c m ha hb hc w => regs_1 o a b c m ha.1 ha.2 hb.1 hb.2 hc.1 hc.2 w)
    (fun o a b c m ha hb hc w => regs_1 o a b c m ha.1 ha.2 hb.1 hb.2 hc.1 hc.2 w)
    (fun o a b c m ha hb hc w => regs_8 o a b c m ha.1 ha.2 hb.1 hb.2 hc.1 hc.2 w)
    (fun o a b c m ha hb hc w => regs_0 o a b c m ha.1 ha.2 hb.1 hb.2 hc.1 hc.2 w)
    (fun o a b c m ha hb hc w => regs_0 o a b c m ha.1 ha.2 hb.1 hb.2 hc.1 hc.2 w)
    (fun o a b c m ha hb hc w => regs_0 o a b c m ha.1 ha.2 hb.1 hb.2 hc.1 hc.2 w)
    (fun o a b c m ha hb hc w => regs_0 o a b c m ha.1 ha.2 hb.1 hb.2 hc.1 hc.2 w)
    (fun o a b c m ha hb hc w => regs_0 o a b c m ha.1 ha.2 hb.1 hb.2 hc.1 hc.2 w)
    (fun o a b c m ha hb hc w => regs_0 o a b c m ha.1 ha.2 hb.1 hb.2 hc.1 hc.2 w)
    (fun o a b c m ha hb hc w => regs_0 o a b c m ha.1 ha.2 hb.1 hb.2 hc.1 hc.2 w)
    (fun o a b c m ha hb hc w => regs_0 o a b c m ha.1 ha.2 hb.1 hb.2 hc.1 hc.2 w)
    (fun o a b c m ha hb hc w => regs_0 o a b c m ha.1 ha.2 hb.1 hb.2 hc.1 hc.2 w)
    (fun o a b c m ha hb hc w => regs_0 o a b c m ha.1 ha.2 hb.1 hb.2 hc.1 hc.2 w)
    (fun o a b c m ha hb hc w => regs_0 o a b c m ha.1 ha.2 hb.1 hb.2 hc.1 hc.2 w)
    (fun o a b c m ha hb hc w => regs_0 o a b c m ha.1 ha.2 hb.1 hb.2 hc.1 hc.2 w)
    (fun o a b c m ha hb hc w => regs_1 o a b c m ha.1 ha.2 hb.1 hb.2 hc.1 hc.2 w)
    (fun o a b c m ha hb hc w => regs_0 o a b c m ha.1 ha.2 hb.1 hb.2 hc.1 hc.2 w)
    (fun o a b c m ha hb hc w => regs_1 o a b c m ha.1 ha.2 hb.1 hb.2 hc.1 hc.2 w)
    (fun o a b c m ha hb hc w => regs_1 o a b c m ha.1 ha.2 hb.1 hb.2 hc.1 hc.2 w)
    (fun o a b c m ha hb hc w => regs_3 o a b c m ha.1 ha.2 hb.1 hb.2 hc.1 hc.2 w)
    (fun o a b c m ha hb hc w => regs_0 o a b c m ha.1 ha.2 hb.1 hb.2 hc.1 hc.2 w)
    (fun o a b c m ha hb hc w => regs_4 o a b c m ha.1 ha.2 hb.1 hb.2 hc.1 hc.2 w)
    (fun o a b c m ha hb hc w => regs_3 o a b c m ha.1 ha.2 hb.1 hb.2 hc.1 hc.2 w)
    (fun o a b c m ha hb hc w => regs_1 o a b c m ha.1 ha.2 hb.1 hb.2 hc.1 hc.2 w)
    (fun o a b c m ha hb hc w => regs_1 o a b c m ha.1 ha.2 hb.1 hb.2 hc.1 hc.2 w)
    (fun o a b c m ha hb hc w => regs_1 o a b c m ha.1 ha.2 hb.1 hb.2 hc.1 hc.2 w)
    (fun o a b c m ha hb hc w => regs_0 o a b c m ha.1 ha.2 hb.1 hb.2 hc.1 hc.2 w)
end Go.Proofs.YtejmmpgclgdbbaaDoor.Wd
