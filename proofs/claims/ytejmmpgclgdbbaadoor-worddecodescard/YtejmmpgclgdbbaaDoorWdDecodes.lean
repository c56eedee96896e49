/-
  What the document's Decode answers, as one; and WordDecodes' walk. Condition: the tables lie where they lie.
-/
import Derived.Test.YtejmmpgclgdbbaaDoorWdRef3
import Derived.Test.YtejmmpgclgdbbaaDoorWdRef4
import Derived.Test.YtejmmpgclgdbbaaDoorWdLists
namespace Go.Proofs.YtejmmpgclgdbbaaDoor.Wd
open Go.RowKit

theorem reg0 : regB 0 false = true := rfl
theorem rdec_lo (k : Nat) (n : Int) (h1 : 1 ≤ k) (h2 : k < 59) (h3 : k < 30) (n0 : 0 ≤ n) (n1 : n < 4294967296) (hk : n / 16777216 = (k : Nat)) (w : World) :
    Calls Tryd.prog 21 #[.int .u32 n] w fun e w' => e = .returned (if fit (sh k) (dA n) (dB n) (dC (sh k) n) (dM (sh k) n) then .tuple #[.agg #[.int .i64 (k : Nat), .int .i64 (dA n), .int .i64 (dB n), .int .i64 (dC (sh k) n), .int .i64 (dM (sh k) n)], .int .i64 0] else .tuple #[.agg #[.int .i64 0, .int .i64 0, .int .i64 0, .int .i64 0, .int .i64 0], .int .i64 61]) ∧ Gr w w' := by
  have hs7 := sh_lt k
  have l0 : 0 ≤ n % 65536 := by omega
  have l1 : n % 65536 < 65536 := by omega
  obtain ⟨s, hs⟩ : ∃ s, sh k = s := ⟨_, rfl⟩
  rw [hs] at hs7 ⊢
  rw [fit_reg s hs7]
  match s, hs7, hs with
  | 0, _, hs =>
    by_cases hl : n % 65536 = 0
    · have z := rdecode_z k 0 n (dA n) (dB n) (n % 65536) _ _ _ _ h1 h2 h3 n0 n1 hk rfl (by unfold dA; omega) (by unfold dA; omega) rfl (by unfold dB; omega) (by unfold dB; omega) rfl l0 l1 hs rfl rfl rfl rfl rfl (by simp only [fm]; omega) (by simpa using hl) w
      have e1 : dC 0 n = 0 := by simp [dC, lowC, fc]
      have e2 : dM 0 n = 0 := by simp [dM, lowM, fc, fl, hl]
      have d1 : decide (fl 0 ≤ 0) = true := decide_eq_true (by simp only [fl]; omega)
      have d2 : decide (0 ≤ fm 0) = true := decide_eq_true (by simp only [fm]; omega)
      rw [e1, e2, d1, d2, Bool.and_true, Bool.and_true, show hC 0 = false from rfl, reg0, Bool.and_true]
      exact z
    · have z := rdecode_e k 0 n (dA n) (dB n) (n % 65536) _ _ _ _ h1 h2 h3 n0 n1 hk rfl (by unfold dA; omega) (by unfold dA; omega) rfl (by unfold dB; omega) (by unfold dB; omega) rfl l0 l1 hs rfl rfl rfl rfl rfl (by simp only [fm]; omega) (by simpa using hl) w
      have e1 : dC 0 n = 0 := by simp [dC, lowC, fc]
      have e2 : dM 0 n = n % 65536 := by simp [dM, lowM, fc, fl]
      have d2 : decide (n % 65536 ≤ fm 0) = false := decide_eq_false (by simp only [fm]; omega)
      rw [e1, e2, d2, Bool.and_false]
      exact z
  | 1, _, hs =>
    by_cases hl : n % 65536 = 0
    · have z := rdecode_z k 1 n (dA n) (dB n) (n % 65536) _ _ _ _ h1 h2 h3 n0 n1 hk rfl (by unfold dA; omega) (by unfold dA; omega) rfl (by unfold dB; omega) (by unfold dB; omega) rfl l0 l1 hs rfl rfl rfl rfl rfl (by simp only [fm]; omega) (by simpa using hl) w
      have e1 : dC 1 n = 0 := by simp [dC, lowC, fc]
      have e2 : dM 1 n = 0 := by simp [dM, lowM, fc, fl, hl]
      have d1 : decide (fl 1 ≤ 0) = true := decide_eq_true (by simp only [fl]; omega)
      have d2 : decide (0 ≤ fm 1) = true := decide_eq_true (by simp only [fm]; omega)
      rw [e1, e2, d1, d2, Bool.and_true, Bool.and_true, show hC 1 = false from rfl, reg0, Bool.and_true]
      exact z
    · have z := rdecode_e k 1 n (dA n) (dB n) (n % 65536) _ _ _ _ h1 h2 h3 n0 n1 hk rfl (by unfold dA; omega) (by unfold dA; omega) rfl (by unfold dB; omega) (by unfold dB; omega) rfl l0 l1 hs rfl rfl rfl rfl rfl (by simp only [fm]; omega) (by simpa using hl) w
      have e1 : dC 1 n = 0 := by simp [dC, lowC, fc]
      have e2 : dM 1 n = n % 65536 := by simp [dM, lowM, fc, fl]
      have d2 : decide (n % 65536 ≤ fm 1) = false := decide_eq_false (by simp only [fm]; omega)
      rw [e1, e2, d2, Bool.and_false]
      exact z
  | 2, _, hs =>
    by_cases hl : n % 65536 = 0
    · have z := rdecode_z k 2 n (dA n) (dB n) (n % 65536) _ _ _ _ h1 h2 h3 n0 n1 hk rfl (by unfold dA; omega) (by unfold dA; omega) rfl (by unfold dB; omega) (by unfold dB; omega) rfl l0 l1 hs rfl rfl rfl rfl rfl (by simp only [fm]; omega) (by simpa using hl) w
      have e1 : dC 2 n = 0 := by simp [dC, lowC, fc]
      have e2 : dM 2 n = 0 := by simp [dM, lowM, fc, fl, hl]
      have d1 : decide (fl 2 ≤ 0) = true := decide_eq_true (by simp only [fl]; omega)
      have d2 : decide (0 ≤ fm 2) = true := decide_eq_true (by simp only [fm]; omega)
      rw [e1, e2, d1, d2, Bool.and_true, Bool.and_true, show hC 2 = false from rfl, reg0, Bool.and_true]
      exact z
    · have z := rdecode_e k 2 n (dA n) (dB n) (n % 65536) _ _ _ _ h1 h2 h3 n0 n1 hk rfl (by unfold dA; omega) (by unfold dA; omega) rfl (by unfold dB; omega) (by unfold dB; omega) rfl l0 l1 hs rfl rfl rfl rfl rfl (by simp only [fm]; omega) (by simpa using hl) w
      have e1 : dC 2 n = 0 := by simp [dC, lowC, fc]
      have e2 : dM 2 n = n % 65536 := by simp [dM, lowM, fc, fl]
      have d2 : decide (n % 65536 ≤ fm 2) = false := decide_eq_false (by simp only [fm]; omega)
      rw [e1, e2, d2, Bool.and_false]
      exact z
  | 3, _, hs =>
    have z := rdecode_c k 3 n (dA n) (dB n) (n % 65536) _ _ _ _ h1 h2 h3 n0 n1 hk rfl (by unfold dA; omega) (by unfold dA; omega) rfl (by unfold dB; omega) (by unfold dB; omega) rfl l0 l1 hs rfl rfl rfl rfl rfl  w
    have e1 : dC 3 n = n % 65536 := by simp [dC, lowC, fc]
    have e2 : dM 3 n = 0 := by simp [dM, lowM, fc]
    have d1 : decide (fl 3 ≤ 0) = true := decide_eq_true (by simp only [fl]; omega)
    have d2 : decide (0 ≤ fm 3) = true := decide_eq_true (by simp only [fm]; omega)
    rw [e1, e2, d1, d2, Bool.and_true, Bool.and_true]
    exact z
  | 4, _, hs =>
    have z := rdecode_i k 4 n (dA n) (dB n) (n % 65536) _ _ _ _ h1 h2 h3 n0 n1 hk rfl (by unfold dA; omega) (by unfold dA; omega) rfl (by unfold dB; omega) (by unfold dB; omega) rfl l0 l1 hs rfl rfl rfl rfl rfl (by simp only [fm]; omega) (by simp only [fl]; omega) w
    have e1 : dC 4 n = 0 := by simp [dC, lowC, fc]
    have e2 : dM 4 n = (n % 65536) := by simp [dM, lowM, fc, fl]
    have d1 : decide (fl 4 ≤ (n % 65536)) = true := decide_eq_true (by simp only [fl]; omega)
    have d2 : decide ((n % 65536) ≤ fm 4) = true := decide_eq_true (by simp only [fm]; omega)
    rw [e1, e2, d1, d2, Bool.and_true, Bool.and_true, show hC 4 = false from rfl, reg0, Bool.and_true]
    exact z
  | 5, _, hs =>
    have z := rdecode_i k 5 n (dA n) (dB n) (n % 65536) _ _ _ _ h1 h2 h3 n0 n1 hk rfl (by unfold dA; omega) (by unfold dA; omega) rfl (by unfold dB; omega) (by unfold dB; omega) rfl l0 l1 hs rfl rfl rfl rfl rfl (by simp only [fm]; omega) (by simp only [fl]; omega) w
    have e1 : dC 5 n = 0 := by simp [dC, lowC, fc]
    have e2 : dM 5 n = (n % 65536) := by simp [dM, lowM, fc, fl]
    have d1 : decide (fl 5 ≤ (n % 65536)) = true := decide_eq_true (by simp only [fl]; omega)
    have d2 : decide ((n % 65536) ≤ fm 5) = true := decide_eq_true (by simp only [fm]; omega)
    rw [e1, e2, d1, d2, Bool.and_true, Bool.and_true, show hC 5 = false from rfl, reg0, Bool.and_true]
    exact z
  | 6, _, hs =>
    by_cases hl : 32767 < n % 65536
    · have z := rdecode_s k 6 n (dA n) (dB n) (n % 65536) _ _ _ _ h1 h2 h3 n0 n1 hk rfl (by unfold dA; omega) (by unfold dA; omega) rfl (by unfold dB; omega) (by unfold dB; omega) rfl l0 l1 hs rfl rfl rfl rfl rfl (by simp only [fm]; omega) (by simp only [fl]; omega) (by simp only [fm]; omega) w
      have e1 : dC 6 n = 0 := by simp [dC, lowC, fc]
      have e2 : dM 6 n = (n % 65536 - 65536) := by simp [dM, lowM, fc, fl]; omega
      have d1 : decide (fl 6 ≤ (n % 65536 - 65536)) = true := decide_eq_true (by simp only [fl]; omega)
      have d2 : decide ((n % 65536 - 65536) ≤ fm 6) = true := decide_eq_true (by simp only [fm]; omega)
      rw [e1, e2, d1, d2, Bool.and_true, Bool.and_true, show hC 6 = false from rfl, reg0, Bool.and_true]
      exact z
    · have z := rdecode_p k 6 n (dA n) (dB n) (n % 65536) _ _ _ _ h1 h2 h3 n0 n1 hk rfl (by unfold dA; omega) (by unfold dA; omega) rfl (by unfold dB; omega) (by unfold dB; omega) rfl l0 l1 hs rfl rfl rfl rfl rfl (by simp only [fm]; omega) (by simp only [fl]; omega) (by simp only [fm]; omega) w
      have e1 : dC 6 n = 0 := by simp [dC, lowC, fc]
      have e2 : dM 6 n = (n % 65536) := by simp [dM, lowM, fc, fl]; omega
      have d1 : decide (fl 6 ≤ (n % 65536)) = true := decide_eq_true (by simp only [fl]; omega)
      have d2 : decide ((n % 65536) ≤ fm 6) = true := decide_eq_true (by simp only [fm]; omega)
      rw [e1, e2, d1, d2, Bool.and_true, Bool.and_true, show hC 6 = false from rfl, reg0, Bool.and_true]
      exact z
theorem rdec_hi (k : Nat) (n : Int) (h1 : 1 ≤ k) (h2 : k < 59) (h3 : ¬ k < 30) (n0 : 0 ≤ n) (n1 : n < 4294967296) (hk : n / 16777216 = (k : Nat)) (w : World) :
    Calls Tryd.prog 21 #[.int .u32 n] w fun e w' => e = .returned (if fit (sh k) (dA n) (dB n) (dC (sh k) n) (dM (sh k) n) then .tuple #[.agg #[.int .i64 (k : Nat), .int .i64 (dA n), .int .i64 (dB n), .int .i64 (dC (sh k) n), .int .i64 (dM (sh k) n)], .int .i64 0] else .tuple #[.agg #[.int .i64 0, .int .i64 0, .int .i64 0, .int .i64 0, .int .i64 0], .int .i64 61]) ∧ Gr w w' := by
  have hs7 := sh_lt k
  have l0 : 0 ≤ n % 65536 := by omega
  have l1 : n % 65536 < 65536 := by omega
  obtain ⟨s, hs⟩ : ∃ s, sh k = s := ⟨_, rfl⟩
  rw [hs] at hs7 ⊢
  rw [fit_reg s hs7]
  match s, hs7, hs with
  | 0, _, hs =>
    by_cases hl : n % 65536 = 0
    · have z := sdecode_z k 0 n (dA n) (dB n) (n % 65536) _ _ _ _ h1 h2 h3 n0 n1 hk rfl (by unfold dA; omega) (by unfold dA; omega) rfl (by unfold dB; omega) (by unfold dB; omega) rfl l0 l1 hs rfl rfl rfl rfl rfl (by simp only [fm]; omega) (by simpa using hl) w
      have e1 : dC 0 n = 0 := by simp [dC, lowC, fc]
      have e2 : dM 0 n = 0 := by simp [dM, lowM, fc, fl, hl]
      have d1 : decide (fl 0 ≤ 0) = true := decide_eq_true (by simp only [fl]; omega)
      have d2 : decide (0 ≤ fm 0) = true := decide_eq_true (by simp only [fm]; omega)
      rw [e1, e2, d1, d2, Bool.and_true, Bool.and_true, show hC 0 = false from rfl, reg0, Bool.and_true]
      exact z
    · have z := sdecode_e k 0 n (dA n) (dB n) (n % 65536) _ _ _ _ h1 h2 h3 n0 n1 hk rfl (by unfold dA; omega) (by unfold dA; omega) rfl (by unfold dB; omega) (by unfold dB; omega) rfl l0 l1 hs rfl rfl rfl rfl rfl (by simp only [fm]; omega) (by simpa using hl) w
      have e1 : dC 0 n = 0 := by simp [dC, lowC, fc]
      have e2 : dM 0 n = n % 65536 := by simp [dM, lowM, fc, fl]
      have d2 : decide (n % 65536 ≤ fm 0) = false := decide_eq_false (by simp only [fm]; omega)
      rw [e1, e2, d2, Bool.and_false]
      exact z
  | 1, _, hs =>
    by_cases hl : n % 65536 = 0
    · have z := sdecode_z k 1 n (dA n) (dB n) (n % 65536) _ _ _ _ h1 h2 h3 n0 n1 hk rfl (by unfold dA; omega) (by unfold dA; omega) rfl (by unfold dB; omega) (by unfold dB; omega) rfl l0 l1 hs rfl rfl rfl rfl rfl (by simp only [fm]; omega) (by simpa using hl) w
      have e1 : dC 1 n = 0 := by simp [dC, lowC, fc]
      have e2 : dM 1 n = 0 := by simp [dM, lowM, fc, fl, hl]
      have d1 : decide (fl 1 ≤ 0) = true := decide_eq_true (by simp only [fl]; omega)
      have d2 : decide (0 ≤ fm 1) = true := decide_eq_true (by simp only [fm]; omega)
      rw [e1, e2, d1, d2, Bool.and_true, Bool.and_true, show hC 1 = false from rfl, reg0, Bool.and_true]
      exact z
    · have z := sdecode_e k 1 n (dA n) (dB n) (n % 65536) _ _ _ _ h1 h2 h3 n0 n1 hk rfl (by unfold dA; omega) (by unfold dA; omega) rfl (by unfold dB; omega) (by unfold dB; omega) rfl l0 l1 hs rfl rfl rfl rfl rfl (by simp only [fm]; omega) (by simpa using hl) w
      have e1 : dC 1 n = 0 := by simp [dC, lowC, fc]
      have e2 : dM 1 n = n % 65536 := by simp [dM, lowM, fc, fl]
      have d2 : decide (n % 65536 ≤ fm 1) = false := decide_eq_false (by simp only [fm]; omega)
      rw [e1, e2, d2, Bool.and_false]
      exact z
  | 2, _, hs =>
    by_cases hl : n % 65536 = 0
    · have z := sdecode_z k 2 n (dA n) (dB n) (n % 65536) _ _ _ _ h1 h2 h3 n0 n1 hk rfl (by unfold dA; omega) (by unfold dA; omega) rfl (by unfold dB; omega) (by unfold dB; omega) rfl l0 l1 hs rfl rfl rfl rfl rfl (by simp only [fm]; omega) (by simpa using hl) w
      have e1 : dC 2 n = 0 := by simp [dC, lowC, fc]
      have e2 : dM 2 n = 0 := by simp [dM, lowM, fc, fl, hl]
      have d1 : decide (fl 2 ≤ 0) = true := decide_eq_true (by simp only [fl]; omega)
      have d2 : decide (0 ≤ fm 2) = true := decide_eq_true (by simp only [fm]; omega)
      rw [e1, e2, d1, d2, Bool.and_true, Bool.and_true, show hC 2 = false from rfl, reg0, Bool.and_true]
      exact z
    · have z := sdecode_e k 2 n (dA n) (dB n) (n % 65536) _ _ _ _ h1 h2 h3 n0 n1 hk rfl (by unfold dA; omega) (by unfold dA; omega) rfl (by unfold dB; omega) (by unfold dB; omega) rfl l0 l1 hs rfl rfl rfl rfl rfl (by simp only [fm]; omega) (by simpa using hl) w
      have e1 : dC 2 n = 0 := by simp [dC, lowC, fc]
      have e2 : dM 2 n = n % 65536 := by simp [dM, lowM, fc, fl]
      have d2 : decide (n % 65536 ≤ fm 2) = false := decide_eq_false (by simp only [fm]; omega)
      rw [e1, e2, d2, Bool.and_false]
      exact z
  | 3, _, hs =>
    have z := sdecode_c k 3 n (dA n) (dB n) (n % 65536) _ _ _ _ h1 h2 h3 n0 n1 hk rfl (by unfold dA; omega) (by unfold dA; omega) rfl (by unfold dB; omega) (by unfold dB; omega) rfl l0 l1 hs rfl rfl rfl rfl rfl  w
    have e1 : dC 3 n = n % 65536 := by simp [dC, lowC, fc]
    have e2 : dM 3 n = 0 := by simp [dM, lowM, fc]
    have d1 : decide (fl 3 ≤ 0) = true := decide_eq_true (by simp only [fl]; omega)
    have d2 : decide (0 ≤ fm 3) = true := decide_eq_true (by simp only [fm]; omega)
    rw [e1, e2, d1, d2, Bool.and_true, Bool.and_true]
    exact z
  | 4, _, hs =>
    have z := sdecode_i k 4 n (dA n) (dB n) (n % 65536) _ _ _ _ h1 h2 h3 n0 n1 hk rfl (by unfold dA; omega) (by unfold dA; omega) rfl (by unfold dB; omega) (by unfold dB; omega) rfl l0 l1 hs rfl rfl rfl rfl rfl (by simp only [fm]; omega) (by simp only [fl]; omega) w
    have e1 : dC 4 n = 0 := by simp [dC, lowC, fc]
    have e2 : dM 4 n = (n % 65536) := by simp [dM, lowM, fc, fl]
    have d1 : decide (fl 4 ≤ (n % 65536)) = true := decide_eq_true (by simp only [fl]; omega)
    have d2 : decide ((n % 65536) ≤ fm 4) = true := decide_eq_true (by simp only [fm]; omega)
    rw [e1, e2, d1, d2, Bool.and_true, Bool.and_true, show hC 4 = false from rfl, reg0, Bool.and_true]
    exact z
  | 5, _, hs =>
    have z := sdecode_i k 5 n (dA n) (dB n) (n % 65536) _ _ _ _ h1 h2 h3 n0 n1 hk rfl (by unfold dA; omega) (by unfold dA; omega) rfl (by unfold dB; omega) (by unfold dB; omega) rfl l0 l1 hs rfl rfl rfl rfl rfl (by simp only [fm]; omega) (by simp only [fl]; omega) w
    have e1 : dC 5 n = 0 := by simp [dC, lowC, fc]
    have e2 : dM 5 n = (n % 65536) := by simp [dM, lowM, fc, fl]
    have d1 : decide (fl 5 ≤ (n % 65536)) = true := decide_eq_true (by simp only [fl]; omega)
    have d2 : decide ((n % 65536) ≤ fm 5) = true := decide_eq_true (by simp only [fm]; omega)
    rw [e1, e2, d1, d2, Bool.and_true, Bool.and_true, show hC 5 = false from rfl, reg0, Bool.and_true]
    exact z
  | 6, _, hs =>
    by_cases hl : 32767 < n % 65536
    · have z := sdecode_s k 6 n (dA n) (dB n) (n % 65536) _ _ _ _ h1 h2 h3 n0 n1 hk rfl (by unfold dA; omega) (by unfold dA; omega) rfl (by unfold dB; omega) (by unfold dB; omega) rfl l0 l1 hs rfl rfl rfl rfl rfl (by simp only [fm]; omega) (by simp only [fl]; omega) (by simp only [fm]; omega) w
      have e1 : dC 6 n = 0 := by simp [dC, lowC, fc]
      have e2 : dM 6 n = (n % 65536 - 65536) := by simp [dM, lowM, fc, fl]; omega
      have d1 : decide (fl 6 ≤ (n % 65536 - 65536)) = true := decide_eq_true (by simp only [fl]; omega)
      have d2 : decide ((n % 65536 - 65536) ≤ fm 6) = true := decide_eq_true (by simp only [fm]; omega)
      rw [e1, e2, d1, d2, Bool.and_true, Bool.and_true, show hC 6 = false from rfl, reg0, Bool.and_true]
      exact z
    · have z := sdecode_p k 6 n (dA n) (dB n) (n % 65536) _ _ _ _ h1 h2 h3 n0 n1 hk rfl (by unfold dA; omega) (by unfold dA; omega) rfl (by unfold dB; omega) (by unfold dB; omega) rfl l0 l1 hs rfl rfl rfl rfl rfl (by simp only [fm]; omega) (by simp only [fl]; omega) (by simp only [fm]; omega) w
      have e1 : dC 6 n = 0 := by simp [dC, lowC, fc]
      have e2 : dM 6 n = (n % 65536) := by simp [dM, lowM, fc, fl]; omega
      have d1 : decide (fl 6 ≤ (n % 65536)) = true := decide_eq_true (by simp only [fl]; omega)
      have d2 : decide ((n % 65536) ≤ fm 6) = true := decide_eq_true (by simp only [fm]; omega)
      rw [e1, e2, d1, d2, Bool.and_true, Bool.and_true, show hC 6 = false from rfl, reg0, Bool.and_true]
      exact z
theorem rdec_yes (k : Nat) (n : Int) (h1 : 1 ≤ k) (h2 : k < 59) (n0 : 0 ≤ n) (n1 : n < 4294967296) (hk : n / 16777216 = (k : Nat)) (w : World) :
    Calls Tryd.prog 21 #[.int .u32 n] w fun e w' => e = .returned (if fit (sh k) (dA n) (dB n) (dC (sh k) n) (dM (sh k) n) then .tuple #[.agg #[.int .i64 (k : Nat), .int .i64 (dA n), .int .i64 (dB n), .int .i64 (dC (sh k) n), .int .i64 (dM (sh k) n)], .int .i64 0] else .tuple #[.agg #[.int .i64 0, .int .i64 0, .int .i64 0, .int .i64 0, .int .i64 0], .int .i64 61]) ∧ Gr w w' := by
  by_cases h3 : k < 30
  · exact rdec_lo k n h1 h2 h3 n0 n1 hk w
  · exact rdec_hi k n h1 h2 h3 n0 n1 hk w

/-- both answer alike -/
theorem both_decode (n : Int) (n0 : 0 ≤ n) (n1 : n < 4294967296) (w : World) (hn : Nums w) (hf : Forms w) : ∃ o a b c m x : Int, (∀ W : World, Gr w W → Calls Tryd.prog 20 #[.int .u32 n] W (fun r w' => r = .returned (.tuple #[.agg #[.int .i64 o, .int .i64 a, .int .i64 b, .int .i64 c, .int .i64 m], .int .i64 x]) ∧ Gr W w')) ∧
    (∀ W : World, Calls Tryd.prog 21 #[.int .u32 n] W (fun r w' => r = .returned (.tuple #[.agg #[.int .i64 o, .int .i64 a, .int .i64 b, .int .i64 c, .int .i64 m], .int .i64 x]) ∧ Gr W w')) := by
  rcases kn_cases (n / 16777216) with h | ⟨k, h1, h2, hk⟩
  · exact ⟨_, _, _, _, _, _, fun W _ => decode_no n n0 n1 h W, fun W => rdecode_no n n0 n1 h W⟩
  · have D := fun (W : World) (g : Gr w W) => decode_yes k n h1 h2 n0 n1 hk W (hn.gr g) (hf.gr g)
    have R := fun (W : World) => rdec_yes k n h1 h2 n0 n1 hk W
    cases hq : fit (sh k) (dA n) (dB n) (dC (sh k) n) (dM (sh k) n) with
    | false =>
      simp only [hq] at D R
      exact ⟨_, _, _, _, _, _, D, R⟩
    | true =>
      simp only [hq] at D R
      exact ⟨_, _, _, _, _, _, D, R⟩

theorem same5 (o a b c m : Int) : ∀ w : World, (binOp .eql 36 (.agg #[.int .i64 o, .int .i64 a, .int .i64 b, .int .i64 c, .int .i64 m]) (.agg #[.int .i64 o, .int .i64 a, .int .i64 b, .int .i64 c, .int .i64 m])).run Tryd.prog w = .ok (.bool true) w := by
  intro w
  go_simp
theorem nsame5 (o a b c m : Int) : ∀ w : World, (binOp .neq 36 (.agg #[.int .i64 o, .int .i64 a, .int .i64 b, .int .i64 c, .int .i64 m]) (.agg #[.int .i64 o, .int .i64 a, .int .i64 b, .int .i64 c, .int .i64 m])).run Tryd.prog w = .ok (.bool false) w := by
  intro w
  go_simp

set_option maxRecDepth 20000 in
theorem decodes_any (v : Value) (n : Nat) (w : World) (hv : UL w v n) (hn : Nums w) (hf : Forms w) :
    Calls Tryd.prog 6 #[v] w fun e w' => e = .returned (.bool true) ∧ Gr w w' := by
  obtain ⟨ao, cap, rfl, hmax, hel⟩ := hv
  have HN := hid hn
  have HF := hid hf
  have HE := hid hel
  clear hn hf hel
  go_enter Tryd.func6, Tryd.ntmps6
  go_wp2_with fail
  go_loopg [3] n (fun m i wr => ∃ j : Nat, j + m = n ∧ i = .int .i64 (j : Nat) ∧ Gr w wr)
  case atStart => exact ⟨0, by omega, rfl, Gr.refl _⟩
  case round =>
    obtain ⟨j, hjk, rfl, hg⟩ := hrel
    have HG := hid hg
    clear hg
    by_cases hj : j < n
    · obtain ⟨g, p, rfl, hgl, hx⟩ := HE.out.resolve_left (by omega)
      obtain ⟨y, kk, y0, y1⟩ := hx j hj
      have c0 := (Ch.cell HG.out hgl (noB _)).trans kk
      have KK := hid kk
      have j0 : (0 : Int) ≤ (j : Int) := by omega
      have j1 : (j : Int) < (n : Int) := by omega
      obtain ⟨o, a, b, c, m, x, B1, B2⟩ := both_decode y y0 y1 w HN.out HF.out
      have HB1 := hid B1
      have HB2 := hid B2
      have HL := hid hgl
      have hs := nsame5 o a b c m
      clear hx kk hgl B1 B2 y0 y1
      go_wp2_with fail
      refine (HB1.out _ HG.out).mono ?_
      rintro _ w1 ⟨rfl, g1⟩
      have HG1 := hid (Gr.trans HG.out g1)
      clear g1 c0
      have c0 := (Ch.cell HG1.out HL.out (noB _)).trans KK.out
      have hlt := Nat.lt_of_lt_of_le HL.out (Ch.size HG1.out)
      go_wp2_with fail
      refine (HB2.out _).mono ?_
      rintro _ w2 ⟨rfl, g2⟩
      have B0 := (Box.new w1 (.int .i64 o) (.int .i64 a) (.int .i64 b) (.int .i64 c) (.int .i64 m) 36).gr g2
      obtain ⟨u0, u1, u2, u3, u4, uz, ul⟩ := B0
      have HG2 := hid (Gr.trans (HG1.out.alloc _ _) g2)
      clear g2 c0 uz hlt
      go_wp2
      go_roundg (gk - 1)
      case measure => omega
      case rel => exact ⟨j + 1, by omega, by simp, HG2.out.alloc _ _⟩
    · have e : j = n := by omega
      subst e
      go_wp2_with fail
      refine (awake_any _ (HN.out.gr HG.out) (HF.out.gr HG.out)).mono ?_
      rintro _ w1 ⟨rfl, g1⟩
      go_wp2
      go_ret
      exact ⟨rfl, Gr.trans HG.out g1⟩
end Go.Proofs.YtejmmpgclgdbbaaDoor.Wd
