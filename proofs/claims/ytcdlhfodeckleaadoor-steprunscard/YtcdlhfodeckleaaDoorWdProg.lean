/-
  What the program's known, Name, Shape, Cost, formOf answer. Condition: the tables lie where they lie; formOf is asked of an operation.
-/
import Derived.Test.YtcdlhfodeckleaaDoorWdWorld
namespace Go.Proofs.YtcdlhfodeckleaaDoor.Wd
open Go.RowKit

/-- is there that operation? -/
def knB (o : Int) : Bool := decide (1 ≤ o) && decide (o < 59)
theorem kn_yes {k : Nat} (h1 : 1 ≤ k) (h2 : k < 59) : knB (k : Int) = true := by unfold knB; simp; omega
theorem kn_no {o : Int} (h : o < 1 ∨ 58 < o) : knB o = false := by unfold knB; simp; omega
theorem kn_cases (o : Int) : (o < 1 ∨ 58 < o) ∨ ∃ k : Nat, 1 ≤ k ∧ k < 59 ∧ o = (k : Int) := by
  by_cases h : o < 1 ∨ 58 < o
  · exact .inl h
  · exact .inr ⟨o.toNat, by omega, by omega, by omega⟩

theorem known_any (o : Int) (w : World) : Calls Tryd.prog 48 #[.int .i64 o] w fun e w' => e = .returned (.bool (knB o)) ∧ w' = w := by
  by_cases h : 1 ≤ o
  · by_cases h2 : o < 59
    · have e1 : knB o = true := by unfold knB; simp; omega
      rw [e1]
      clear e1
      go_enter Tryd.func48, Tryd.ntmps48
      go_wp2
      go_ret
      exact ⟨rfl, rfl⟩
    · have e1 : knB o = false := by unfold knB; simp; omega
      rw [e1]
      clear e1
      go_enter Tryd.func48, Tryd.ntmps48
      go_wp2
      go_ret
      exact ⟨rfl, rfl⟩
  · have e1 : knB o = false := by unfold knB; simp; omega
    rw [e1]
    clear e1
    go_enter Tryd.func48, Tryd.ntmps48
    go_wp2
    go_ret
    exact ⟨rfl, rfl⟩

theorem nu_shape : ∀ k, 1 ≤ k → k < 59 → bits .and .u16 (nu k) 7 = (sh k : Nat) := by
  refine ops_all ?_ ?_ ?_ ?_ ?_ ?_ ?_ ?_ ?_ ?_ ?_ ?_ ?_ ?_ ?_ ?_ ?_ ?_ ?_ ?_ ?_ ?_ ?_ ?_ ?_ ?_ ?_ ?_ ?_ ?_ ?_ ?_ ?_ ?_ ?_ ?_ ?_ ?_ ?_ ?_ ?_ ?_ ?_ ?_ ?_ ?_ ?_ ?_ ?_ ?_ ?_ ?_ ?_ ?_ ?_ ?_ ?_ ?_ <;> decide +kernel
theorem nu_cost : ∀ k, 1 ≤ k → k < 59 → bits .and .u16 (IntKind.u16.wrap ((nu k).tdiv 8)) 15 = co k := by
  refine ops_all ?_ ?_ ?_ ?_ ?_ ?_ ?_ ?_ ?_ ?_ ?_ ?_ ?_ ?_ ?_ ?_ ?_ ?_ ?_ ?_ ?_ ?_ ?_ ?_ ?_ ?_ ?_ ?_ ?_ ?_ ?_ ?_ ?_ ?_ ?_ ?_ ?_ ?_ ?_ ?_ ?_ ?_ ?_ ?_ ?_ ?_ ?_ ?_ ?_ ?_ ?_ ?_ ?_ ?_ ?_ ?_ ?_ ?_ <;> decide +kernel
theorem nu_bd : ∀ k, 1 ≤ k → k < 59 → 0 ≤ nu k ∧ nu k < 65536 ∧ 1 ≤ co k ∧ co k ≤ 8 := by
  refine ops_all ?_ ?_ ?_ ?_ ?_ ?_ ?_ ?_ ?_ ?_ ?_ ?_ ?_ ?_ ?_ ?_ ?_ ?_ ?_ ?_ ?_ ?_ ?_ ?_ ?_ ?_ ?_ ?_ ?_ ?_ ?_ ?_ ?_ ?_ ?_ ?_ ?_ ?_ ?_ ?_ ?_ ?_ ?_ ?_ ?_ ?_ ?_ ?_ ?_ ?_ ?_ ?_ ?_ ?_ ?_ ?_ ?_ ?_ <;> decide +kernel

theorem cost_no (o : Int) (h : o < 1 ∨ 58 < o) (w : World) : Calls Tryd.prog 24 #[.int .i64 o] w fun e w' => e = .returned (.tuple #[.int .i64 0, .int .i64 60]) ∧ w' = w := by
  have H := hid (kn_no h)
  clear h
  go_enter Tryd.func24, Tryd.ntmps24
  go_wp2_with fail
  refine (known_any o _).mono ?_
  rintro e w1 ⟨rfl, rfl⟩
  rw [H.out]
  go_wp2
  go_ret2
  exact ⟨rfl, rfl⟩
theorem cost_yes (k : Nat) (h1 : 1 ≤ k) (h2 : k < 59) (w : World) (hn : Nums w) : Calls Tryd.prog 24 #[.int .i64 (k : Nat)] w fun e w' => e = .returned (.tuple #[.int .i64 (co k), .int .i64 0]) ∧ w' = w := by
  have H := hid (kn_yes h1 h2)
  have c := hn.at_ k h1 h2
  have hb := nu_cost k h1 h2
  obtain ⟨n0, n1, n2, n3⟩ := nu_bd k h1 h2
  obtain ⟨s, hs'⟩ : ∃ s, s = co k := ⟨_, rfl⟩
  rw [← hs'] at hb n2 n3 ⊢
  clear hn hs'
  go_enter Tryd.func24, Tryd.ntmps24
  go_wp2_with fail
  refine (known_any _ _).mono ?_
  rintro e w1 ⟨rfl, rfl⟩
  rw [H.out]
  go_wp2
  go_ret2
  exact ⟨rfl, rfl⟩

/-- a shape's form -/
def formV (s : Nat) : Value := .agg #[.int .i64 (fa s), .int .i64 (fb s), .int .i64 (fc s), .int .i64 (fl s), .int .i64 (fm s)]
theorem formOf_at (k : Nat) (h1 : 1 ≤ k) (h2 : k < 59) (w : World) (hn : Nums w) (hf : Forms w) : Calls Tryd.prog 59 #[.int .i64 (k : Nat)] w fun e w' => e = .returned (formV (sh k)) ∧ w' = w.alloc (.cells #[.int .i64 (fa (sh k)), .int .i64 (fb (sh k)), .int .i64 (fc (sh k)), .int .i64 (fl (sh k)), .int .i64 (fm (sh k))] 112) := by
  have c := hn.at_ k h1 h2
  have hb := nu_shape k h1 h2
  have hs := sh_lt k
  have l1 := hn.lt
  have l2 := hf.lt
  have c0 := hf.a0 _ hs
  have c1 := hf.a1 _ hs
  have c2 := hf.a2 _ hs
  have c3 := hf.a3 _ hs
  have c4 := hf.a4 _ hs
  obtain ⟨s, hs'⟩ : ∃ s, s = sh k := ⟨_, rfl⟩
  unfold formV
  rw [← hs'] at hb hs c0 c1 c2 c3 c4 ⊢
  clear hn hf hs'
  go_enter Tryd.func59, Tryd.ntmps59
  go_wp2
  go_returns
  exact ⟨rfl, rfl⟩
theorem formOf_yes (k : Nat) (h1 : 1 ≤ k) (h2 : k < 59) (w : World) (hn : Nums w) (hf : Forms w) : Calls Tryd.prog 59 #[.int .i64 (k : Nat)] w fun e w' => e = .returned (formV (sh k)) ∧ Gr w w' :=
  (formOf_at k h1 h2 w hn hf).mono fun e w' ⟨he, hw⟩ => ⟨he, by rw [hw]; exact (Gr.refl _).alloc _ _⟩
end Go.Proofs.YtcdlhfodeckleaaDoor.Wd
