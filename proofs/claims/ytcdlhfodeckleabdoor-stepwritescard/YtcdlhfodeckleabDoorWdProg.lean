/-
  What the program's known, Name, Shape, Cost, formOf answer. Condition: the tables lie where they lie; formOf is asked of an operation.
-/
import Derived.Test.YtcdlhfodeckleabDoorWdWorld
namespace Go.Proofs.YtcdlhfodeckleabDoor.Wd
open Go.RowKit

/-- is there that operation? -/
def knB (o : Int) : Bool := decide (1 ≤ o) && decide (o < 59)
theorem kn_yes {k : Nat} (h1 : 1 ≤ k) (h2 : k < 59) : knB (k : Int) = true := by unfold knB; simp; omega
theorem kn_no {o : Int} (h : o < 1 ∨ 58 < o) : knB o = false := by unfold knB; simp; omega
theorem kn_cases (o : Int) : (o < 1 ∨ 58 < o) ∨ ∃ k : Nat, 1 ≤ k ∧ k < 59 ∧ o = (k : Int) := by
  by_cases h : o < 1 ∨ 58 < o
  · exact .inl h
  · exact .inr ⟨o.toNat, by omega, by omega, by omega⟩

theorem known_any (o : Int) (w : World) : Calls Tryd.prog 42 #[.int .i64 o] w fun e w' => e = .returned (.bool (knB o)) ∧ w' = w := by
  by_cases h : 1 ≤ o
  · by_cases h2 : o < 59
    · have e1 : knB o = true := by unfold knB; simp; omega
      rw [e1]
      clear e1
      go_enter Tryd.func42, Tryd.ntmps42
      go_wp2
      go_ret
      exact ⟨rfl, rfl⟩
    · have e1 : knB o = false := by unfold knB; simp; omega
      rw [e1]
      clear e1
      go_enter Tryd.func42, Tryd.ntmps42
      go_wp2
      go_ret
      exact ⟨rfl, rfl⟩
  · have e1 : knB o = false := by unfold knB; simp; omega
    rw [e1]
    clear e1
    go_enter Tryd.func42, Tryd.ntmps42
    go_wp2
    go_ret
    exact ⟨rfl, rfl⟩

theorem nu_shape : ∀ k, 1 ≤ k → k < 59 → bits .and .u16 (nu k) 7 = (sh k : Nat) := by
  refine ops_all ?_ ?_ ?_ ?_ ?_ ?_ ?_ ?_ ?_ ?_ ?_ ?_ ?_ ?_ ?_ ?_ ?_ ?_ ?_ ?_ ?_ ?_ ?_ ?_ ?_ ?_ ?_ ?_ ?_ ?_ ?_ ?_ ?_ ?_ ?_ ?_ ?_ ?_ ?_ ?_ ?_ ?_ ?_ ?_ ?_ ?_ ?_ ?_ ?_ ?_ ?_ ?_ ?_ ?_ ?_ ?_ ?_ ?_ <;> decide +kernel
theorem nu_cost : ∀ k, 1 ≤ k → k < 59 → bits .and .u16 (IntKind.u16.wrap ((nu k).tdiv 8)) 15 = co k := by
  refine ops_all ?_ ?_ ?_ ?_ ?_ ?_ ?_ ?_ ?_ ?_ ?_ ?_ ?_ ?_ ?_ ?_ ?_ ?_ ?_ ?_ ?_ ?_ ?_ ?_ ?_ ?_ ?_ ?_ ?_ ?_ ?_ ?_ ?_ ?_ ?_ ?_ ?_ ?_ ?_ ?_ ?_ ?_ ?_ ?_ ?_ ?_ ?_ ?_ ?_ ?_ ?_ ?_ ?_ ?_ ?_ ?_ ?_ ?_ <;> decide +kernel
theorem nu_bd : ∀ k, 1 ≤ k → k < 59 → 0 ≤ nu k ∧ nu k < 65536 ∧ 1 ≤ co k ∧ co k ≤ 8 := by
  refine ops_all ?_ ?_ ?_ ?_ ?_ ?_ ?_ ?_ ?_ ?_ ?_ ?_ ?_ ?_ ?_ ?_ ?_ ?_ ?_ ?_ ?_ ?_ ?_ ?_ ?_ ?_ ?_ ?_ ?_ ?_ ?_ ?_ ?_ ?_ ?_ ?_ ?_ ?_ ?_ ?_ ?_ ?_ ?_ ?_ ?_ ?_ ?_ ?_ ?_ ?_ ?_ ?_ ?_ ?_ ?_ ?_ ?_ ?_ <;> decide +kernel

/-- a shape's form -/
def formV (s : Nat) : Value := .agg #[.int .i64 (fa s), .int .i64 (fb s), .int .i64 (fc s), .int .i64 (fl s), .int .i64 (fm s)]
theorem formOf_at (k : Nat) (h1 : 1 ≤ k) (h2 : k < 59) (w : World) (hn : Nums w) (hf : Forms w) : Calls Tryd.prog 43 #[.int .i64 (k : Nat)] w fun e w' => e = .returned (formV (sh k)) ∧ w' = w.alloc (.cells #[.int .i64 (fa (sh k)), .int .i64 (fb (sh k)), .int .i64 (fc (sh k)), .int .i64 (fl (sh k)), .int .i64 (fm (sh k))] 91) := by
  have c := hn.at_ k h1 h2
  have hb := nu_shape k h1 h2
  have hs := sh_lt k
  have l1 := hn.lt
  have l2 := hf.lt
  have c0 := hf.a0 _ hs
  have c1 := hf.a1 _ hs
  have c2 := hf.a2 _ hs
  have c3 := hf.a3 _ hs
  have c4 := hf.a4 _ hs
  obtain ⟨s, hs'⟩ : ∃ s, s = sh k := ⟨_, rfl⟩
  unfold formV
  rw [← hs'] at hb hs c0 c1 c2 c3 c4 ⊢
  clear hn hf hs'
  go_enter Tryd.func43, Tryd.ntmps43
  go_wp2
  go_returns
  exact ⟨rfl, rfl⟩
theorem formOf_yes (k : Nat) (h1 : 1 ≤ k) (h2 : k < 59) (w : World) (hn : Nums w) (hf : Forms w) : Calls Tryd.prog 43 #[.int .i64 (k : Nat)] w fun e w' => e = .returned (formV (sh k)) ∧ Gr w w' :=
  (formOf_at k h1 h2 w hn hf).mono fun e w' ⟨he, hw⟩ => ⟨he, by rw [hw]; exact (Gr.refl _).alloc _ _⟩
end Go.Proofs.YtcdlhfodeckleabDoor.Wd
