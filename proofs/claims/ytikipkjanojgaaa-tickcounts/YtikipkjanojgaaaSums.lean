/-
  TickSums: Add and Up of the program answer as the document's do, for any two numbers. No conditions.
-/
import Derived.Test.YtikipkjanojgaaaAdds
import Derived.ProofKit
namespace Go.Proofs.Ytikipkjanojgaaa.Tk
open Go.RowKit

theorem radd_any (a b : Int) (ha : U a) (hb : U b) (w : World) :
    Calls Try.prog 10 #[.int .u64 a, .int .u64 b] w fun e w' => e = .returned (.tuple #[.int .u64 (addN a b), .int .i64 (addE a b)]) ∧ w' = w := by
  obtain ⟨a0, a1⟩ := ha
  obtain ⟨b0, b1⟩ := hb
  by_cases h : a + b ≤ 18446744073709551615
  · have e1 : addN a b = a + b := if_pos h
    have e2 : addE a b = 0 := if_pos h
    rw [e1, e2]
    clear e1 e2
    go_enter Try.func10, Try.ntmps10
    go_wp2
    go_ret2
    exact ⟨rfl, rfl⟩
  · have e1 : addN a b = 0 := if_neg h
    have e2 : addE a b = 10 := if_neg h
    rw [e1, e2]
    clear e1 e2
    go_enter Try.func10, Try.ntmps10
    go_wp2
    go_ret2
    exact ⟨rfl, rfl⟩

theorem up_any (a b : Int) (ha : U a) (hb : U b) (w : World) :
    Calls Try.prog 11 #[.int .u64 a, .int .u64 b] w fun e w' => e = .returned (.tuple #[.int .u64 (upN a b), .int .i64 (upE b)]) ∧ w' = w := by
  obtain ⟨a0, a1⟩ := ha
  obtain ⟨b0, b1⟩ := hb
  by_cases h : b = 0
  · subst h
    go_enter Try.func11, Try.ntmps11
    go_wp2
    go_ret2
    exact ⟨rfl, rfl⟩
  · have hb1 : 1 ≤ b := by omega
    have hd := div_bd a b a0 hb1
    have hm := mod_bd a b hb1
    have H1 : Hid (upE b = 0) := if_neg h
    by_cases h2 : a % b = 0
    · have H2 : Hid (upN a b = a / b) := show upN a b = a / b by unfold upN; rw [if_neg h, if_pos h2]
      have k : (a % b != 0) = false := by simp [h2]
      clear h2
      go_enter Try.func11, Try.ntmps11
      go_wp2
      go_ret2
      exact ⟨ret2 H2.out.symm H1.out.symm, rfl⟩
    · have H2 : Hid (upN a b = a / b + 1) := show upN a b = a / b + 1 by unfold upN; rw [if_neg h, if_neg h2]
      have k : (a % b != 0) = true := by simp [h2]
      have hq : a / b + 1 ≤ 18446744073709551615 := by
        have h3 := dm a b
        have h4 : a / b * 1 ≤ a / b * b := Int.mul_le_mul_of_nonneg_left hb1 hd.1
        omega
      clear h2
      go_enter Try.func11, Try.ntmps11
      go_wp2
      go_ret2
      exact ⟨ret2 H2.out.symm H1.out.symm, rfl⟩

theorem rup_any (a b : Int) (ha : U a) (hb : U b) (w : World) :
    Calls Try.prog 12 #[.int .u64 a, .int .u64 b] w fun e w' => e = .returned (.tuple #[.int .u64 (upN a b), .int .i64 (upE b)]) ∧ w' = w := by
  obtain ⟨a0, a1⟩ := ha
  obtain ⟨b0, b1⟩ := hb
  by_cases h : b = 0
  · subst h
    go_enter Try.func12, Try.ntmps12
    go_wp2
    go_ret2
    exact ⟨rfl, rfl⟩
  · have hb1 : 1 ≤ b := by omega
    have hd := div_bd a b a0 hb1
    have hm := mod_bd a b hb1
    have H1 : Hid (upE b = 0) := if_neg h
    by_cases h2 : a % b = 0
    · have H2 : Hid (upN a b = a / b) := show upN a b = a / b by unfold upN; rw [if_neg h, if_pos h2]
      have k : ¬ 0 < a % b := by omega
      clear h2
      go_enter Try.func12, Try.ntmps12
      go_wp2
      go_ret2
      exact ⟨ret2 H2.out.symm H1.out.symm, rfl⟩
    · have H2 : Hid (upN a b = a / b + 1) := show upN a b = a / b + 1 by unfold upN; rw [if_neg h, if_neg h2]
      have k : 0 < a % b := by omega
      have hq : a / b + 1 ≤ 18446744073709551615 := by
        have h3 := dm a b
        have h4 : a / b * 1 ≤ a / b * b := Int.mul_le_mul_of_nonneg_left hb1 hd.1
        omega
      clear h2
      go_enter Try.func12, Try.ntmps12
      go_wp2
      go_ret2
      exact ⟨ret2 H2.out.symm H1.out.symm, rfl⟩

theorem sums_any (a b : Int) (ha : U a) (hb : U b) (w : World) :
    Calls Try.prog 3 #[.int .u64 a, .int .u64 b] w fun e w' => e = .returned (.bool true) ∧ w' = w := by
  go_enter Try.func3, Try.ntmps3
  go_wp2_with (first | (go_at_call 9; refine (add_any a b ha hb _).mono ?_; rintro e w' ⟨rfl, rfl⟩) | (go_at_call 10; refine (radd_any a b ha hb _).mono ?_; rintro e w' ⟨rfl, rfl⟩) | (go_at_call 11; refine (up_any a b ha hb _).mono ?_; rintro e w' ⟨rfl, rfl⟩) | (go_at_call 12; refine (rup_any a b ha hb _).mono ?_; rintro e w' ⟨rfl, rfl⟩) | (go_at_call 13; refine (lives_any _).mono ?_; rintro e w' ⟨rfl, rfl⟩))
  go_ret
  exact ⟨rfl, rfl⟩
end Go.Proofs.Ytikipkjanojgaaa.Tk
