/-
  What the document's Decode answers of any word. No conditions.
-/
import Derived.Test.YtcdlhfodeckleaaDoorWdRef3
import Derived.Test.YtcdlhfodeckleaaDoorWdRef4
import Derived.Test.YtcdlhfodeckleaaDoorWdDec
namespace Go.Proofs.YtcdlhfodeckleaaDoor.Wd
open Go.RowKit

theorem reg0 : regB 0 false = true := rfl
theorem rdec_lo (k : Nat) (n : Int) (h1 : 1 ≤ k) (h2 : k < 59) (h3 : k < 30) (n0 : 0 ≤ n) (n1 : n < 4294967296) (hk : n / 16777216 = (k : Nat)) (w : World) :
    Calls Tryd.prog 49 #[.int .u32 n] w fun e w' => e = .returned (if fit (sh k) (dA n) (dB n) (dC (sh k) n) (dM (sh k) n) then .tuple #[.agg #[.int .i64 (k : Nat), .int .i64 (dA n), .int .i64 (dB n), .int .i64 (dC (sh k) n), .int .i64 (dM (sh k) n)], .int .i64 0] else .tuple #[.agg #[.int .i64 0, .int .i64 0, .int .i64 0, .int .i64 0, .int .i64 0], .int .i64 61]) ∧ Gr w w' := by
  have hs7 := sh_lt k
  have l0 : 0 ≤ n % 65536 := by omega
  have l1 : n % 65536 < 65536 := by omega
  obtain ⟨s, hs⟩ : ∃ s, sh k = s := ⟨_, rfl⟩
  rw [hs] at hs7 ⊢
  rw [fit_reg s hs7]
  match s, hs7, hs with
  | 0, _, hs =>
    by_cases hl : n % 65536 = 0
    · have z := rdecode_z k 0 n (dA n) (dB n) (n % 65536) _ _ _ _ h1 h2 h3 n0 n1 hk rfl (by unfold dA; omega) (by unfold dA; omega) rfl (by unfold dB; omega) (by unfold dB; omega) rfl l0 l1 hs rfl rfl rfl rfl rfl (by simp only [fm]; omega) (by simpa using hl) w
      have e1 : dC 0 n = 0 := by simp [dC, lowC, fc]
      have e2 : dM 0 n = 0 := by simp [dM, lowM, fc, fl, hl]
      have d1 : decide (fl 0 ≤ 0) = true := decide_eq_true (by simp only [fl]; omega)
      have d2 : decide (0 ≤ fm 0) = true := decide_eq_true (by simp only [fm]; omega)
      rw [e1, e2, d1, d2, Bool.and_true, Bool.and_true, show hC 0 = false from rfl, reg0, Bool.and_true]
      exact z
    · have z := rdecode_e k 0 n (dA n) (dB n) (n % 65536) _ _ _ _ h1 h2 h3 n0 n1 hk rfl (by unfold dA; omega) (by unfold dA; omega) rfl (by unfold dB; omega) (by unfold dB; omega) rfl l0 l1 hs rfl rfl rfl rfl rfl (by simp only [fm]; omega) (by simpa using hl) w
      have e1 : dC 0 n = 0 := by simp [dC, lowC, fc]
      have e2 : dM 0 n = n % 65536 := by simp [dM, lowM, fc, fl]
      have d2 : decide (n % 65536 ≤ fm 0) = false := decide_eq_false (by simp only [fm]; omega)
      rw [e1, e2, d2, Bool.and_false]
      exact z
  | 1, _, hs =>
    by_cases hl : n % 65536 = 0
    · have z := rdecode_z k 1 n (dA n) (dB n) (n % 65536) _ _ _ _ h1 h2 h3 n0 n1 hk rfl (by unfold dA; omega) (by unfold dA; omega) rfl (by unfold dB; omega) (by unfold dB; omega) rfl l0 l1 hs rfl rfl rfl rfl rfl (by simp only [fm]; omega) (by simpa using hl) w
      have e1 : dC 1 n = 0 := by simp [dC, lowC, fc]
      have e2 : dM 1 n = 0 := by simp [dM, lowM, fc, fl, hl]
      have d1 : decide (fl 1 ≤ 0) = true := decide_eq_true (by simp only [fl]; omega)
      have d2 : decide (0 ≤ fm 1) = true := decide_eq_true (by simp only [fm]; omega)
      rw [e1, e2, d1, d2, Bool.and_true, Bool.and_true, show hC 1 = false from rfl, reg0, Bool.and_true]
      exact z
    · have z := rdecode_e k 1 n (dA n) (dB n) (n % 65536) _ _ _ _ h1 h2 h3 n0 n1 hk rfl (by unfold dA; omega) (by unfold dA; omega) rfl (by unfold dB; omega) (by unfold dB; omega) rfl l0 l1 hs rfl rfl rfl rfl rfl (by simp only [fm]; omega) (by simpa using hl) w
      have e1 : dC 1 n = 0 := by simp [dC, lowC, fc]
      have e2 : dM 1 n = n % 65536 := by simp [dM, lowM, fc, fl]
      have d2 : decide (n % 65536 ≤ fm 1) = false := decide_eq_false (by simp only [fm]; omega)
      rw [e1, e2, d2, Bool.and_false]
      exact z
  | 2, _, hs =>
    by_cases hl : n % 65536 = 0
    · have z := rdecode_z k 2 n (dA n) (dB n) (n % 65536) _ _ _ _ h1 h2 h3 n0 n1 hk rfl (by unfold dA; omega) (by unfold dA; omega) rfl (by unfold dB; omega) (by unfold dB; omega) rfl l0 l1 hs rfl rfl rfl rfl rfl (by simp only [fm]; omega) (by simpa using hl) w
      have e1 : dC 2 n = 0 := by simp [dC, lowC, fc]
      have e2 : dM 2 n = 0 := by simp [dM, lowM, fc, fl, hl]
      have d1 : decide (fl 2 ≤ 0) = true := decide_eq_true (by simp only [fl]; omega)
      have d2 : decide (0 ≤ fm 2) = true := decide_eq_true (by simp only [fm]; omega)
      rw [e1, e2, d1, d2, Bool.and_true, Bool.and_true, show hC 2 = false from rfl, reg0, Bool.and_true]
      exact z
    · have z := rdecode_e k 2 n (dA n) (dB n) (n % 65536) _ _ _ _ h1 h2 h3 n0 n1 hk rfl (by unfold dA; omega) (by unfold dA; omega) rfl (by unfold dB; omega) (by unfold dB; omega) rfl l0 l1 hs rfl rfl rfl rfl rfl (by simp only [fm]; omega) (by simpa using hl) w
      have e1 : dC 2 n = 0 := by simp [dC, lowC, fc]
      have e2 : dM 2 n = n % 65536 := by simp [dM, lowM, fc, fl]
      have d2 : decide (n % 65536 ≤ fm 2) = false := decide_eq_false (by simp only [fm]; omega)
      rw [e1, e2, d2, Bool.and_false]
      exact z
  | 3, _, hs =>
    have z := rdecode_c k 3 n (dA n) (dB n) (n % 65536) _ _ _ _ h1 h2 h3 n0 n1 hk rfl (by unfold dA; omega) (by unfold dA; omega) rfl (by unfold dB; omega) (by unfold dB; omega) rfl l0 l1 hs rfl rfl rfl rfl rfl  w
    have e1 : dC 3 n = n % 65536 := by simp [dC, lowC, fc]
    have e2 : dM 3 n = 0 := by simp [dM, lowM, fc]
    have d1 : decide (fl 3 ≤ 0) = true := decide_eq_true (by simp only [fl]; omega)
    have d2 : decide (0 ≤ fm 3) = true := decide_eq_true (by simp only [fm]; omega)
    rw [e1, e2, d1, d2, Bool.and_true, Bool.and_true]
    exact z
  | 4, _, hs =>
    have z := rdecode_i k 4 n (dA n) (dB n) (n % 65536) _ _ _ _ h1 h2 h3 n0 n1 hk rfl (by unfold dA; omega) (by unfold dA; omega) rfl (by unfold dB; omega) (by unfold dB; omega) rfl l0 l1 hs rfl rfl rfl rfl rfl (by simp only [fm]; omega) (by simp only [fl]; omega) w
    have e1 : dC 4 n = 0 := by simp [dC, lowC, fc]
    have e2 : dM 4 n = (n % 65536) := by simp [dM, lowM, fc, fl]
    have d1 : decide (fl 4 ≤ (n % 65536)) = true := decide_eq_true (by simp only [fl]; omega)
    have d2 : decide ((n % 65536) ≤ fm 4) = true := decide_eq_true (by simp only [fm]; omega)
    rw [e1, e2, d1, d2, Bool.and_true, Bool.and_true, show hC 4 = false from rfl, reg0, Bool.and_true]
    exact z
  | 5, _, hs =>
    have z := rdecode_i k 5 n (dA n) (dB n) (n % 65536) _ _ _ _ h1 h2 h3 n0 n1 hk rfl (by unfold dA; omega) (by unfold dA; omega) rfl (by unfold dB; omega) (by unfold dB; omega) rfl l0 l1 hs rfl rfl rfl rfl rfl (by simp only [fm]; omega) (by simp only [fl]; omega) w
    have e1 : dC 5 n = 0 := by simp [dC, lowC, fc]
    have e2 : dM 5 n = (n % 65536) := by simp [dM, lowM, fc, fl]
    have d1 : decide (fl 5 ≤ (n % 65536)) = true := decide_eq_true (by simp only [fl]; omega)
    have d2 : decide ((n % 65536) ≤ fm 5) = true := decide_eq_true (by simp only [fm]; omega)
    rw [e1, e2, d1, d2, Bool.and_true, Bool.and_true, show hC 5 = false from rfl, reg0, Bool.and_true]
    exact z
  | 6, _, hs =>
    by_cases hl : 32767 < n % 65536
    · have z := rdecode_s k 6 n (dA n) (dB n) (n % 65536) _ _ _ _ h1 h2 h3 n0 n1 hk rfl (by unfold dA; omega) (by unfold dA; omega) rfl (by unfold dB; omega) (by unfold dB; omega) rfl l0 l1 hs rfl rfl rfl rfl rfl (by simp only [fm]; omega) (by simp only [fl]; omega) (by simp only [fm]; omega) w
      have e1 : dC 6 n = 0 := by simp [dC, lowC, fc]
      have e2 : dM 6 n = (n % 65536 - 65536) := by simp [dM, lowM, fc, fl]; omega
      have d1 : decide (fl 6 ≤ (n % 65536 - 65536)) = true := decide_eq_true (by simp only [fl]; omega)
      have d2 : decide ((n % 65536 - 65536) ≤ fm 6) = true := decide_eq_true (by simp only [fm]; omega)
      rw [e1, e2, d1, d2, Bool.and_true, Bool.and_true, show hC 6 = false from rfl, reg0, Bool.and_true]
      exact z
    · have z := rdecode_p k 6 n (dA n) (dB n) (n % 65536) _ _ _ _ h1 h2 h3 n0 n1 hk rfl (by unfold dA; omega) (by unfold dA; omega) rfl (by unfold dB; omega) (by unfold dB; omega) rfl l0 l1 hs rfl rfl rfl rfl rfl (by simp only [fm]; omega) (by simp only [fl]; omega) (by simp only [fm]; omega) w
      have e1 : dC 6 n = 0 := by simp [dC, lowC, fc]
      have e2 : dM 6 n = (n % 65536) := by simp [dM, lowM, fc, fl]; omega
      have d1 : decide (fl 6 ≤ (n % 65536)) = true := decide_eq_true (by simp only [fl]; omega)
      have d2 : decide ((n % 65536) ≤ fm 6) = true := decide_eq_true (by simp only [fm]; omega)
      rw [e1, e2, d1, d2, Bool.and_true, Bool.and_true, show hC 6 = false from rfl, reg0, Bool.and_true]
      exact z
theorem rdec_hi (k : Nat) (n : Int) (h1 : 1 ≤ k) (h2 : k < 59) (h3 : ¬ k < 30) (n0 : 0 ≤ n) (n1 : n < 4294967296) (hk : n / 16777216 = (k : Nat)) (w : World) :
    Calls Tryd.prog 49 #[.int .u32 n] w fun e w' => e = .returned (if fit (sh k) (dA n) (dB n) (dC (sh k) n) (dM (sh k) n) then .tuple #[.agg #[.int .i64 (k : Nat), .int .i64 (dA n), .int .i64 (dB n), .int .i64 (dC (sh k) n), .int .i64 (dM (sh k) n)], .int .i64 0] else .tuple #[.agg #[.int .i64 0, .int .i64 0, .int .i64 0, .int .i64 0, .int .i64 0], .int .i64 61]) ∧ Gr w w' := by
  have hs7 := sh_lt k
  have l0 : 0 ≤ n % 65536 := by omega
  have l1 : n % 65536 < 65536 := by omega
  obtain ⟨s, hs⟩ : ∃ s, sh k = s := ⟨_, rfl⟩
  rw [hs] at hs7 ⊢
  rw [fit_reg s hs7]
  match s, hs7, hs with
  | 0, _, hs =>
    by_cases hl : n % 65536 = 0
    · have z := sdecode_z k 0 n (dA n) (dB n) (n % 65536) _ _ _ _ h1 h2 h3 n0 n1 hk rfl (by unfold dA; omega) (by unfold dA; omega) rfl (by unfold dB; omega) (by unfold dB; omega) rfl l0 l1 hs rfl rfl rfl rfl rfl (by simp only [fm]; omega) (by simpa using hl) w
      have e1 : dC 0 n = 0 := by simp [dC, lowC, fc]
      have e2 : dM 0 n = 0 := by simp [dM, lowM, fc, fl, hl]
      have d1 : decide (fl 0 ≤ 0) = true := decide_eq_true (by simp only [fl]; omega)
      have d2 : decide (0 ≤ fm 0) = true := decide_eq_true (by simp only [fm]; omega)
      rw [e1, e2, d1, d2, Bool.and_true, Bool.and_true, show hC 0 = false from rfl, reg0, Bool.and_true]
      exact z
    · have z := sdecode_e k 0 n (dA n) (dB n) (n % 65536) _ _ _ _ h1 h2 h3 n0 n1 hk rfl (by unfold dA; omega) (by unfold dA; omega) rfl (by unfold dB; omega) (by unfold dB; omega) rfl l0 l1 hs rfl rfl rfl rfl rfl (by simp only [fm]; omega) (by simpa using hl) w
      have e1 : dC 0 n = 0 := by simp [dC, lowC, fc]
      have e2 : dM 0 n = n % 65536 := by simp [dM, lowM, fc, fl]
      have d2 : decide (n % 65536 ≤ fm 0) = false := decide_eq_false (by simp only [fm]; omega)
      rw [e1, e2, d2, Bool.and_false]
      exact z
  | 1, _, hs =>
    by_cases hl : n % 65536 = 0
    · have z := sdecode_z k 1 n (dA n) (dB n) (n % 65536) _ _ _ _ h1 h2 h3 n0 n1 hk rfl (by unfold dA; omega) (by unfold dA; omega) rfl (by unfold dB; omega) (by unfold dB; omega) rfl l0 l1 hs rfl rfl rfl rfl rfl (by simp only [fm]; omega) (by simpa using hl) w
      have e1 : dC 1 n = 0 := by simp [dC, lowC, fc]
      have e2 : dM 1 n = 0 := by simp [dM, lowM, fc, fl, hl]
      have d1 : decide (fl 1 ≤ 0) = true := decide_eq_true (by simp only [fl]; omega)
      have d2 : decide (0 ≤ fm 1) = true := decide_eq_true (by simp only [fm]; omega)
      rw [e1, e2, d1, d2, Bool.and_true, Bool.and_true, show hC 1 = false from rfl, reg0, Bool.and_true]
      exact z
    · have z := sdecode_e k 1 n (dA n) (dB n) (n % 65536) _ _ _ _ h1 h2 h3 n0 n1 hk rfl (by unfold dA; omega) (by unfold dA; omega) rfl (by unfold dB; omega) (by unfold dB; omega) rfl l0 l1 hs rfl rfl rfl rfl rfl (by simp only [fm]; omega) (by simpa using hl) w
      have e1 : dC 1 n = 0 := by simp [dC, lowC, fc]
      have e2 : dM 1 n = n % 65536 := by simp [dM, lowM, fc, fl]
      have d2 : decide (n % 65536 ≤ fm 1) = false := decide_eq_false (by simp only [fm]; omega)
      rw [e1, e2, d2, Bool.and_false]
      exact z
  | 2, _, hs =>
    by_cases hl : n % 65536 = 0
    · have z := sdecode_z k 2 n (dA n) (dB n) (n % 65536) _ _ _ _ h1 h2 h3 n0 n1 hk rfl (by unfold dA; omega) (by unfold dA; omega) rfl (by unfold dB; omega) (by unfold dB; omega) rfl l0 l1 hs rfl rfl rfl rfl rfl (by simp only [fm]; omega) (by simpa using hl) w
      have e1 : dC 2 n = 0 := by simp [dC, lowC, fc]
      have e2 : dM 2 n = 0 := by simp [dM, lowM, fc, fl, hl]
      have d1 : decide (fl 2 ≤ 0) = true := decide_eq_true (by simp only [fl]; omega)
      have d2 : decide (0 ≤ fm 2) = true := decide_eq_true (by simp only [fm]; omega)
      rw [e1, e2, d1, d2, Bool.and_true, Bool.and_true, show hC 2 = false from rfl, reg0, Bool.and_true]
      exact z
    · have z := sdecode_e k 2 n (dA n) (dB n) (n % 65536) _ _ _ _ h1 h2 h3 n0 n1 hk rfl (by unfold dA; omega) (by unfold dA; omega) rfl (by unfold dB; omega) (by unfold dB; omega) rfl l0 l1 hs rfl rfl rfl rfl rfl (by simp only [fm]; omega) (by simpa using hl) w
      have e1 : dC 2 n = 0 := by simp [dC, lowC, fc]
      have e2 : dM 2 n = n % 65536 := by simp [dM, lowM, fc, fl]
      have d2 : decide (n % 65536 ≤ fm 2) = false := decide_eq_false (by simp only [fm]; omega)
      rw [e1, e2, d2, Bool.and_false]
      exact z
  | 3, _, hs =>
    have z := sdecode_c k 3 n (dA n) (dB n) (n % 65536) _ _ _ _ h1 h2 h3 n0 n1 hk rfl (by unfold dA; omega) (by unfold dA; omega) rfl (by unfold dB; omega) (by unfold dB; omega) rfl l0 l1 hs rfl rfl rfl rfl rfl  w
    have e1 : dC 3 n = n % 65536 := by simp [dC, lowC, fc]
    have e2 : dM 3 n = 0 := by simp [dM, lowM, fc]
    have d1 : decide (fl 3 ≤ 0) = true := decide_eq_true (by simp only [fl]; omega)
    have d2 : decide (0 ≤ fm 3) = true := decide_eq_true (by simp only [fm]; omega)
    rw [e1, e2, d1, d2, Bool.and_true, Bool.and_true]
    exact z
  | 4, _, hs =>
    have z := sdecode_i k 4 n (dA n) (dB n) (n % 65536) _ _ _ _ h1 h2 h3 n0 n1 hk rfl (by unfold dA; omega) (by unfold dA; omega) rfl (by unfold dB; omega) (by unfold dB; omega) rfl l0 l1 hs rfl rfl rfl rfl rfl (by simp only [fm]; omega) (by simp only [fl]; omega) w
    have e1 : dC 4 n = 0 := by simp [dC, lowC, fc]
    have e2 : dM 4 n = (n % 65536) := by simp [dM, lowM, fc, fl]
    have d1 : decide (fl 4 ≤ (n % 65536)) = true := decide_eq_true (by simp only [fl]; omega)
    have d2 : decide ((n % 65536) ≤ fm 4) = true := decide_eq_true (by simp only [fm]; omega)
    rw [e1, e2, d1, d2, Bool.and_true, Bool.and_true, show hC 4 = false from rfl, reg0, Bool.and_true]
    exact z
  | 5, _, hs =>
    have z := sdecode_i k 5 n (dA n) (dB n) (n % 65536) _ _ _ _ h1 h2 h3 n0 n1 hk rfl (by unfold dA; omega) (by unfold dA; omega) rfl (by unfold dB; omega) (by unfold dB; omega) rfl l0 l1 hs rfl rfl rfl rfl rfl (by simp only [fm]; omega) (by simp only [fl]; omega) w
    have e1 : dC 5 n = 0 := by simp [dC, lowC, fc]
    have e2 : dM 5 n = (n % 65536) := by simp [dM, lowM, fc, fl]
    have d1 : decide (fl 5 ≤ (n % 65536)) = true := decide_eq_true (by simp only [fl]; omega)
    have d2 : decide ((n % 65536) ≤ fm 5) = true := decide_eq_true (by simp only [fm]; omega)
    rw [e1, e2, d1, d2, Bool.and_true, Bool.and_true, show hC 5 = false from rfl, reg0, Bool.and_true]
    exact z
  | 6, _, hs =>
    by_cases hl : 32767 < n % 65536
    · have z := sdecode_s k 6 n (dA n) (dB n) (n % 65536) _ _ _ _ h1 h2 h3 n0 n1 hk rfl (by unfold dA; omega) (by unfold dA; omega) rfl (by unfold dB; omega) (by unfold dB; omega) rfl l0 l1 hs rfl rfl rfl rfl rfl (by simp only [fm]; omega) (by simp only [fl]; omega) (by simp only [fm]; omega) w
      have e1 : dC 6 n = 0 := by simp [dC, lowC, fc]
      have e2 : dM 6 n = (n % 65536 - 65536) := by simp [dM, lowM, fc, fl]; omega
      have d1 : decide (fl 6 ≤ (n % 65536 - 65536)) = true := decide_eq_true (by simp only [fl]; omega)
      have d2 : decide ((n % 65536 - 65536) ≤ fm 6) = true := decide_eq_true (by simp only [fm]; omega)
      rw [e1, e2, d1, d2, Bool.and_true, Bool.and_true, show hC 6 = false from rfl, reg0, Bool.and_true]
      exact z
    · have z := sdecode_p k 6 n (dA n) (dB n) (n % 65536) _ _ _ _ h1 h2 h3 n0 n1 hk rfl (by unfold dA; omega) (by unfold dA; omega) rfl (by unfold dB; omega) (by unfold dB; omega) rfl l0 l1 hs rfl rfl rfl rfl rfl (by simp only [fm]; omega) (by simp only [fl]; omega) (by simp only [fm]; omega) w
      have e1 : dC 6 n = 0 := by simp [dC, lowC, fc]
      have e2 : dM 6 n = (n % 65536) := by simp [dM, lowM, fc, fl]; omega
      have d1 : decide (fl 6 ≤ (n % 65536)) = true := decide_eq_true (by simp only [fl]; omega)
      have d2 : decide ((n % 65536) ≤ fm 6) = true := decide_eq_true (by simp only [fm]; omega)
      rw [e1, e2, d1, d2, Bool.and_true, Bool.and_true, show hC 6 = false from rfl, reg0, Bool.and_true]
      exact z
theorem rdec_yes (k : Nat) (n : Int) (h1 : 1 ≤ k) (h2 : k < 59) (n0 : 0 ≤ n) (n1 : n < 4294967296) (hk : n / 16777216 = (k : Nat)) (w : World) :
    Calls Tryd.prog 49 #[.int .u32 n] w fun e w' => e = .returned (if fit (sh k) (dA n) (dB n) (dC (sh k) n) (dM (sh k) n) then .tuple #[.agg #[.int .i64 (k : Nat), .int .i64 (dA n), .int .i64 (dB n), .int .i64 (dC (sh k) n), .int .i64 (dM (sh k) n)], .int .i64 0] else .tuple #[.agg #[.int .i64 0, .int .i64 0, .int .i64 0, .int .i64 0, .int .i64 0], .int .i64 61]) ∧ Gr w w' := by
  by_cases h3 : k < 30
  · exact rdec_lo k n h1 h2 h3 n0 n1 hk w
  · exact rdec_hi k n h1 h2 h3 n0 n1 hk w

end Go.Proofs.YtcdlhfodeckleaaDoor.Wd
