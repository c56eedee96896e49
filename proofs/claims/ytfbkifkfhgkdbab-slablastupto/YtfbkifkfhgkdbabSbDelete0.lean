/-
  What slices.Delete of no element answers: the list as it is. Condition: the place is in the list.
-/
import Derived.Test.YtfbkifkfhgkdbabSbDelete
namespace Go.Proofs.Ytfbkifkfhgkdbab.Sb
open Go.RowKit
attribute [local go_sem ↓] Go.wp_at_zero Go.wp_at_succ

theorem delete_none (ao : Option Addr) (n cap i : Nat) (w : World) (hi : i ≤ n) (hc : n ≤ cap) :
    Calls Try.prog 43 #[.slice ao n cap, .int .i64 (i : Int), .int .i64 (i : Int)] w fun e w' => e = .returned (.slice ao n cap) ∧ Ch NoB w w' := by
  have b1 : (0 : Int) ≤ (i : Int) := by omega
  have b3 : (i : Int) ≤ (n : Int) := by omega
  have b6 : (i : Int) ≤ (cap : Int) := by omega
  have b7 : (n : Int) ≤ (cap : Int) := by omega
  cases ao with
  | none =>
    go_enter Try.func43, Try.ntmps43
    go_wp2
    go_ret
    exact ⟨rfl, Ch.refl _ _⟩
  | some a =>
    by_cases e : cap = i
    · subst e
      obtain rfl : n = cap := by omega
      go_enter Try.func43, Try.ntmps43
      go_wp2
      go_ret
      exact ⟨rfl, Ch.refl _ _⟩
    · have e1 : ¬ (i = cap) := fun h => e h.symm
      by_cases e2 : n = i
      · subst e2
        go_enter Try.func43, Try.ntmps43
        go_wp2
        go_ret
        exact ⟨rfl, Ch.refl _ _⟩
      · have e3 : ¬ (i = n) := fun h => e2 h.symm
        go_enter Try.func43, Try.ntmps43
        go_wp2
        go_ret
        exact ⟨rfl, Ch.refl _ _⟩
end Go.Proofs.Ytfbkifkfhgkdbab.Sb
