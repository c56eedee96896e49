/-
  What the program's fits, low and check answer. Condition: check is asked where the tables lie.
-/
import Derived.Test.YtcdlhfodeckleaaDoorWdProg
import Derived.Deep.RegionHeld3
namespace Go.Proofs.YtcdlhfodeckleaaDoor.Wd
open Go.RowKit

/-- are all fields what they may be? -/
def fitB (x0 x1 x2 x3 x4 a b c m : Int) : Bool := decide ((0 ≤ a ∧ a ≤ x0) ∧ (0 ≤ b ∧ b ≤ x1) ∧ (0 ≤ c ∧ c ≤ x2) ∧ x3 ≤ m ∧ m ≤ x4)

set_option maxRecDepth 20000 in
theorem fits_any (x0 x1 x2 x3 x4 o a b c m : Int) (w : World) : Calls Tryd.prog 61 #[.agg #[.int .i64 x0, .int .i64 x1, .int .i64 x2, .int .i64 x3, .int .i64 x4], .agg #[.int .i64 o, .int .i64 a, .int .i64 b, .int .i64 c, .int .i64 m]] w fun e w' => e = .returned (.bool (fitB x0 x1 x2 x3 x4 a b c m)) ∧ Gr w w' := by
  by_cases h0 : 0 ≤ a
  · have d0 : decide (0 ≤ a) = true := decide_eq_true h0
    by_cases h1 : a ≤ x0
    · have d1 : decide (a ≤ x0) = true := decide_eq_true h1
      by_cases h2 : 0 ≤ b
      · have d2 : decide (0 ≤ b) = true := decide_eq_true h2
        by_cases h3 : b ≤ x1
        · have d3 : decide (b ≤ x1) = true := decide_eq_true h3
          by_cases h4 : 0 ≤ c
          · have d4 : decide (0 ≤ c) = true := decide_eq_true h4
            by_cases h5 : c ≤ x2
            · have d5 : decide (c ≤ x2) = true := decide_eq_true h5
              by_cases h6 : x3 ≤ m
              · have d6 : decide (x3 ≤ m) = true := decide_eq_true h6
                by_cases h7 : m ≤ x4
                · have d7 : decide (m ≤ x4) = true := decide_eq_true h7
                  have e1 : fitB x0 x1 x2 x3 x4 a b c m = true := by unfold fitB; simp; omega
                  rw [e1]
                  clear e1
                  go_enter Tryd.func61, Tryd.ntmps61
                  go_wp2
                  go_ret
                  exact ⟨rfl, ((Gr.refl _).alloc _ _).alloc _ _⟩
                · have d7 : decide (m ≤ x4) = false := decide_eq_false h7
                  have e1 : fitB x0 x1 x2 x3 x4 a b c m = false := by unfold fitB; simp; omega
                  rw [e1]
                  clear e1
                  go_enter Tryd.func61, Tryd.ntmps61
                  go_wp2
                  go_ret
                  exact ⟨rfl, ((Gr.refl _).alloc _ _).alloc _ _⟩
              · have d6 : decide (x3 ≤ m) = false := decide_eq_false h6
                have e1 : fitB x0 x1 x2 x3 x4 a b c m = false := by unfold fitB; simp; omega
                rw [e1]
                clear e1
                go_enter Tryd.func61, Tryd.ntmps61
                go_wp2
                go_ret
                exact ⟨rfl, ((Gr.refl _).alloc _ _).alloc _ _⟩
            · have d5 : decide (c ≤ x2) = false := decide_eq_false h5
              have e1 : fitB x0 x1 x2 x3 x4 a b c m = false := by unfold fitB; simp; omega
              rw [e1]
              clear e1
              go_enter Tryd.func61, Tryd.ntmps61
              go_wp2
              go_ret
              exact ⟨rfl, ((Gr.refl _).alloc _ _).alloc _ _⟩
          · have d4 : decide (0 ≤ c) = false := decide_eq_false h4
            have e1 : fitB x0 x1 x2 x3 x4 a b c m = false := by unfold fitB; simp; omega
            rw [e1]
            clear e1
            go_enter Tryd.func61, Tryd.ntmps61
            go_wp2
            go_ret
            exact ⟨rfl, ((Gr.refl _).alloc _ _).alloc _ _⟩
        · have d3 : decide (b ≤ x1) = false := decide_eq_false h3
          have e1 : fitB x0 x1 x2 x3 x4 a b c m = false := by unfold fitB; simp; omega
          rw [e1]
          clear e1
          go_enter Tryd.func61, Tryd.ntmps61
          go_wp2
          go_ret
          exact ⟨rfl, ((Gr.refl _).alloc _ _).alloc _ _⟩
      · have d2 : decide (0 ≤ b) = false := decide_eq_false h2
        have e1 : fitB x0 x1 x2 x3 x4 a b c m = false := by unfold fitB; simp; omega
        rw [e1]
        clear e1
        go_enter Tryd.func61, Tryd.ntmps61
        go_wp2
        go_ret
        exact ⟨rfl, ((Gr.refl _).alloc _ _).alloc _ _⟩
    · have d1 : decide (a ≤ x0) = false := decide_eq_false h1
      have e1 : fitB x0 x1 x2 x3 x4 a b c m = false := by unfold fitB; simp; omega
      rw [e1]
      clear e1
      go_enter Tryd.func61, Tryd.ntmps61
      go_wp2
      go_ret
      exact ⟨rfl, ((Gr.refl _).alloc _ _).alloc _ _⟩
  · have d0 : decide (0 ≤ a) = false := decide_eq_false h0
    have e1 : fitB x0 x1 x2 x3 x4 a b c m = false := by unfold fitB; simp; omega
    rw [e1]
    clear e1
    go_enter Tryd.func61, Tryd.ntmps61
    go_wp2
    go_ret
    exact ⟨rfl, ((Gr.refl _).alloc _ _).alloc _ _⟩

/-- the lowest 16 bits as C and as the number -/
def lowC (x2 n : Int) : Int := if 0 < x2 then n else 0
def lowM (x2 x3 n : Int) : Int := if 0 < x2 then 0 else if x3 < 0 then (if n < 32768 then n else n - 65536) else n
theorem i16_of {n : Int} (h0 : 0 ≤ n) (h1 : n < 65536) : IntKind.i16.wrap n = if n < 32768 then n else n - 65536 := by
  simp only [IntKind.wrap, IntKind.bits, IntKind.signed]
  simp
  omega

theorem low_any (x0 x1 x2 x3 x4 n : Int) (h0 : 0 ≤ n) (h1 : n < 65536) (w : World) : Calls Tryd.prog 60 #[.agg #[.int .i64 x0, .int .i64 x1, .int .i64 x2, .int .i64 x3, .int .i64 x4], .int .u16 n] w fun e w' => e = .returned (.tuple #[.int .i64 (lowC x2 n), .int .i64 (lowM x2 x3 n)]) ∧ w' = w.alloc (.cells #[.int .i64 x0, .int .i64 x1, .int .i64 x2, .int .i64 x3, .int .i64 x4] 112) := by
  have r0 : IntKind.i64.wrap n = n := by rw [IntKind.wrap_i64]; omega
  by_cases hx : 0 < x2
  · have e1 : lowC x2 n = n := if_pos hx
    have e2 : lowM x2 x3 n = 0 := if_pos hx
    rw [e1, e2]
    clear e1 e2
    go_enter Tryd.func60, Tryd.ntmps60
    go_wp2
    go_ret2
    exact ⟨rfl, rfl⟩
  · have e1 : lowC x2 n = 0 := if_neg hx
    by_cases hy : x3 < 0
    · have e2 : lowM x2 x3 n = (if n < 32768 then n else n - 65536) := by unfold lowM; rw [if_neg hx, if_pos hy]
      have r1 := i16_of h0 h1
      obtain ⟨m, hm⟩ : ∃ m, m = (if n < 32768 then n else n - 65536) := ⟨_, rfl⟩
      have hm1 : -32768 ≤ m ∧ m < 32768 := by rw [hm]; split <;> omega
      rw [← hm] at r1 e2
      have r2 : IntKind.i64.wrap m = m := by rw [IntKind.wrap_i64]; omega
      rw [e1, e2]
      clear e1 e2 hm
      go_enter Tryd.func60, Tryd.ntmps60
      go_wp2
      go_ret2
      exact ⟨rfl, rfl⟩
    · have e2 : lowM x2 x3 n = n := by unfold lowM; rw [if_neg hx, if_neg hy]
      rw [e1, e2]
      clear e1 e2
      go_enter Tryd.func60, Tryd.ntmps60
      go_wp2
      go_ret2
      exact ⟨rfl, rfl⟩

/-- do the fields fit the shape? -/
def fit (s : Nat) (a b c m : Int) : Bool := fitB (fa s) (fb s) (fc s) (fl s) (fm s) a b c m

/-- an instruction in its variable, and the tables, behind what made new blocks alone -/
theorem held5 {w wb w1 : World} {x : Nat} {o a b c m : Value} (g : Gr wb w1) (h : wb.cell? ⟨x, 0, none⟩ = some o ∧ wb.cell? ⟨x, 1, none⟩ = some a ∧ wb.cell? ⟨x, 2, none⟩ = some b ∧ wb.cell? ⟨x, 3, none⟩ = some c ∧ wb.cell? ⟨x, 4, none⟩ = some m ∧ x < wb.heap.size ∧ Nums wb ∧ Forms wb ∧ Gr w wb) :
    w1.cell? ⟨x, 0, none⟩ = some o ∧ w1.cell? ⟨x, 1, none⟩ = some a ∧ w1.cell? ⟨x, 2, none⟩ = some b ∧ w1.cell? ⟨x, 3, none⟩ = some c ∧ w1.cell? ⟨x, 4, none⟩ = some m ∧ x < w1.heap.size ∧ Nums w1 ∧ Forms w1 ∧ Gr w w1 := by
  obtain ⟨h0, h1, h2, h3, h4, hb, hN, hF, hg⟩ := h
  exact ⟨(Ch.cell g hb (noB _)).trans h0, (Ch.cell g hb (noB _)).trans h1, (Ch.cell g hb (noB _)).trans h2, (Ch.cell g hb (noB _)).trans h3, (Ch.cell g hb (noB _)).trans h4, Nat.lt_of_lt_of_le hb g.size, hN.gr g, hF.gr g, Gr.trans hg g⟩

theorem boxed5 {w w1 : World} {T : TypeId} {o a b c m : Value} (g : Gr (w.alloc (.cells #[o, a, b, c, m] T)) w1) :
    w1.cell? ⟨w.heap.size, 0, none⟩ = some o ∧ w1.cell? ⟨w.heap.size, 1, none⟩ = some a ∧ w1.cell? ⟨w.heap.size, 2, none⟩ = some b ∧ w1.cell? ⟨w.heap.size, 3, none⟩ = some c ∧ w1.cell? ⟨w.heap.size, 4, none⟩ = some m :=
  ⟨(Ch.cell g (by simp) (noB _)).trans (by simp), (Ch.cell g (by simp) (noB _)).trans (by simp), (Ch.cell g (by simp) (noB _)).trans (by simp), (Ch.cell g (by simp) (noB _)).trans (by simp), (Ch.cell g (by simp) (noB _)).trans (by simp)⟩

end Go.Proofs.YtcdlhfodeckleaaDoor.Wd
