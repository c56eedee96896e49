/-
  The plain arithmetic of layer 1, on: how many ticks are inside, tick by tick, over a frame, and up to the one with a number. Conditions: the window may be one of the frame, where a theorem says so.
-/
import Derived.Test.YtbghagpjkkmhpaaPlain
namespace Go.Proofs.Ytbghagpjkkmhpaa.Tk

theorem divmod_of {t f q r : Int} (h : t = q * f + r) (r0 : 0 ≤ r) (r1 : r < f) : t / f = q ∧ t % f = r := by
  have hf : f ≠ 0 := by omega
  constructor
  · rw [h, Int.add_comm, Int.add_mul_ediv_right _ _ hf, Int.ediv_eq_zero_of_lt r0 r1]
    omega
  · rw [h, Int.add_comm, Int.add_mul_emod_self_right]
    exact Int.emod_eq_of_lt r0 r1
theorem succ_divmod (t f : Int) (hf : 1 ≤ f) :
    (t % f + 1 < f ∧ (t + 1) / f = t / f ∧ (t + 1) % f = t % f + 1) ∨ (t % f + 1 = f ∧ (t + 1) / f = t / f + 1 ∧ (t + 1) % f = 0) := by
  have h1 := dm t f
  have h2 := mod_bd t f hf
  by_cases h : t % f + 1 < f
  · left
    have := divmod_of (t := t + 1) (f := f) (q := t / f) (r := t % f + 1) (by omega) (by omega) h
    exact ⟨h, this.1, this.2⟩
  · right
    have := divmod_of (t := t + 1) (f := f) (q := t / f + 1) (r := 0) (by rw [Int.add_mul, Int.one_mul]; omega) (by omega) (by omega)
    exact ⟨by omega, this.1, this.2⟩
theorem pas_succ (p s l : Int) (hl : 1 ≤ l) : pas (p + 1) s l = pas p s l + insN p s l := by
  unfold pas insN
  by_cases h1 : p + 1 ≤ s
  · rw [if_pos h1, if_pos (by omega), if_neg (by omega)]
    rfl
  · rw [if_neg h1]
    by_cases h2 : p ≤ s
    · rw [if_pos h2, if_pos (by omega), if_pos (by omega)]
      omega
    · rw [if_neg h2]
      by_cases h3 : p + 1 - s ≤ l
      · rw [if_pos h3, if_pos (by omega), if_pos (by omega)]
        omega
      · rw [if_neg h3]
        by_cases h4 : p - s ≤ l
        · rw [if_pos h4, if_neg (by omega)]
          omega
        · rw [if_neg h4, if_neg (by omega)]
          omega
theorem pas_zero (s l : Int) (hs : 0 ≤ s) : pas 0 s l = 0 := if_pos hs
theorem pas_end (f s l : Int) (hl : 1 ≤ l) (hf : s + l ≤ f) : pas f s l = l := by
  unfold pas
  rw [if_neg (by omega)]
  split <;> omega
theorem insN_bd (p s l : Int) : 0 ≤ insN p s l ∧ insN p s l ≤ 1 := by
  unfold insN
  split <;> omega
theorem insN_of (p s l : Int) : insN p s l = if insB p s l = true then 1 else 0 := by
  unfold insN insB
  simp

/-- one tick more -/
theorem bef_succ (t f s l : Int) (hs : 0 ≤ s) (hl : 1 ≤ l) (hf : s + l ≤ f) : bef (t + 1) f s l = bef t f s l + insN (t % f) s l := by
  unfold bef
  rcases succ_divmod t f (by omega) with ⟨_, h2, h3⟩ | ⟨h1, h2, h3⟩
  · rw [h2, h3, pas_succ _ _ _ hl]
    omega
  · have h4 := pas_succ (t % f) s l hl
    rw [h1, pas_end f s l hl hf] at h4
    rw [h2, h3, pas_zero s l hs, Int.add_mul, Int.one_mul]
    omega
/-- of n ticks at most n are inside -/
theorem bef_grow (f s l : Int) (hs : 0 ≤ s) (hl : 1 ≤ l) (hf : s + l ≤ f) (t : Int) (n : Nat) : bef t f s l ≤ bef (t + n) f s l ∧ bef (t + n) f s l ≤ bef t f s l + n := by
  induction n with
  | zero => simp
  | succ n ih =>
    have h1 := bef_succ (t + n) f s l hs hl hf
    have h2 := insN_bd ((t + n) % f) s l
    have e : t + ((n + 1 : Nat) : Int) = t + n + 1 := by omega
    rw [e, h1]
    omega
theorem bef_le (f s l : Int) (hs : 0 ≤ s) (hl : 1 ≤ l) (hf : s + l ≤ f) {t u : Int} (h : t ≤ u) : bef t f s l ≤ bef u f s l ∧ bef u f s l ≤ bef t f s l + (u - t) := by
  have := bef_grow f s l hs hl hf t (u - t).toNat
  have e : t + ((u - t).toNat : Int) = u := by omega
  rw [e] at this
  omega

/-- what Count counts -/
theorem coN_eq {t n f s l : Int} (hm : mayE s l f = 0) (hs : 0 ≤ s) (hn : 1 ≤ n) (he : t + (n - 1) ≤ 18446744073709551615) : coN t n f s l = bef (t + n) f s l - bef t f s l := by
  obtain ⟨m1, m2, m3⟩ := may_ok hm
  have h := bef_succ (t + (n - 1)) f s l hs m1 m2
  have e : t + (n - 1) + 1 = t + n := by omega
  rw [e] at h
  unfold coN
  rw [if_pos hm, if_neg (by omega), if_pos he, h]
  omega
end Go.Proofs.Ytbghagpjkkmhpaa.Tk
