/-
  What the document's trap, Len, Cap and Goes of layer 11 answer. Conditions: there is such a channel, or there is none.
-/
import Derived.Test.YtalmiphddgmfbabCnLeave
namespace Go.Proofs.Ytalmiphddgmfbab.Lt
open Go.RowKit Wd
attribute [local go_sem ↓] Go.wp_at_zero Go.wp_at_succ

/-- why a handle is none -/
def tC (n : Nat) (ch : Int) : Int := if ch = 0 ∨ (1 ≤ ch ∧ ch ≤ (n : Int)) then 0 else 4
theorem rtrap_any (ao : Option Addr) (n cap : Nat) (ch : Int) (w : World) : Calls Try.prog 58 #[.slice ao n cap, .int .i64 ch] w fun e w' => e = .returned (.int .i64 (tC n ch)) ∧ w' = w := by
  have HI := hid ris_any
  unfold tC
  by_cases h0 : ch = 0
  · rw [if_pos (.inl h0)]
    have e0 : (ch == 0) = true := by rw [h0]; rfl
    clear h0
    go_enter Try.func58, Try.ntmps58
    go_wp2
    go_ret
    exact ⟨rfl, rfl⟩
  · have e0 : (ch == 0) = false := by simpa using h0
    by_cases h1 : 1 ≤ ch ∧ ch ≤ (n : Int)
    · rw [if_pos (.inr h1)]
      have hd : decide (1 ≤ ch ∧ ch ≤ (n : Int)) = true := decide_eq_true h1
      clear h0 h1
      go_enter Try.func58, Try.ntmps58
      go_wp2_with (go_at_call 57; refine (HI.out _ _ _ _ _).mono ?_; rw [hd]; rintro e w1 ⟨rfl, hw⟩; have hw := hw.symm; subst hw)
      go_ret
      exact ⟨rfl, rfl⟩
    · rw [if_neg (fun q => q.elim h0 h1)]
      have hd : decide (1 ≤ ch ∧ ch ≤ (n : Int)) = false := decide_eq_false h1
      clear h0 h1
      go_enter Try.func58, Try.ntmps58
      go_wp2_with (go_at_call 57; refine (HI.out _ _ _ _ _).mono ?_; rw [hd]; rintro e w1 ⟨rfl, hw⟩; have hw := hw.symm; subst hw)
      go_ret
      exact ⟨rfl, rfl⟩
set_option maxHeartbeats 1000000 in
theorem rgoes_no (ao : Option Addr) (n cap : Nat) (ch : Int) (sd : Bool) (w : World) (h : ¬ (1 ≤ ch ∧ ch ≤ (n : Int))) : Calls Try.prog 39 #[.slice ao n cap, .int .i64 ch, .bool sd] w fun e w' => e = .returned (.tuple #[.bool false, .int .i64 (tC n ch)]) ∧ w' = w := by
  have hd : decide (1 ≤ ch ∧ ch ≤ (n : Int)) = false := decide_eq_false h
  have HI := hid ris_any
  have HTR := hid rtrap_any
  clear h
  go_enter Try.func39, Try.ntmps39
  go_wp2_with (first | (go_at_call 57; refine (HI.out _ _ _ _ _).mono ?_; rw [hd]; rintro e w1 ⟨rfl, hw⟩; have hw := hw.symm; subst hw) | (go_at_call 58; refine (HTR.out _ _ _ _ _).mono ?_; rintro e w2 ⟨rfl, hw⟩; have hw := hw.symm; subst hw))
  exact bodyPost_ret (v := .tuple #[.bool false, .int .i64 (tC n ch)]) (by simp [results, Try.results39, go_sem]) rfl ⟨rfl, rfl⟩
end Go.Proofs.Ytalmiphddgmfbab.Lt
