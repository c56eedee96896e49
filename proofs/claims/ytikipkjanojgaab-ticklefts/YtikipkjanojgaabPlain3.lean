/-
  The plain arithmetic of layer 1, to its end: counts add up, a frame has Length ticks inside, up to the tick with a number just so many are inside, and what is left of a window has no gap. Conditions: the window may be one of the frame, where a theorem says so.
-/
import Derived.Test.YtikipkjanojgaabPlain2
namespace Go.Proofs.Ytikipkjanojgaab.Tk

theorem may_vals (s l f : Int) : mayE s l f = 0 ∨ mayE s l f = 1 ∨ mayE s l f = 11 := by
  unfold mayE
  split
  · simp
  · split <;> simp
theorem add_vals (a b : Int) : (a + b ≤ 18446744073709551615 ∧ addN a b = a + b ∧ addE a b = 0) ∨ (¬ a + b ≤ 18446744073709551615 ∧ addN a b = 0 ∧ addE a b = 10) := by
  unfold addN addE
  by_cases h : a + b ≤ 18446744073709551615
  · left
    rw [if_pos h, if_pos h]
    exact ⟨h, rfl, rfl⟩
  · right
    rw [if_neg h, if_neg h]
    exact ⟨h, rfl, rfl⟩
theorem addN_U (a b : Int) (ha : U a) (hb : U b) : U (addN a b) := by
  rcases add_vals a b with ⟨h1, h2, _⟩ | ⟨_, h2, _⟩
  · rw [h2]
    exact ⟨by have := ha.1; have := hb.1; omega, h1⟩
  · rw [h2]
    exact ⟨by omega, by omega⟩

/-- what Count answers, in all: a bad window; beyond the last tick; or so many -/
theorem co_vals (t n f s l : Int) (hs : 0 ≤ s) (hn : 0 ≤ n) :
    (mayE s l f ≠ 0 ∧ coN t n f s l = 0 ∧ coE t n f s l = mayE s l f) ∨
    (mayE s l f = 0 ∧ coN t n f s l = 0 ∧ coE t n f s l = 10 ∧ 1 ≤ n ∧ ¬ t + (n - 1) ≤ 18446744073709551615) ∨
    (mayE s l f = 0 ∧ coN t n f s l = bef (t + n) f s l - bef t f s l ∧ coE t n f s l = 0 ∧ (n = 0 ∨ t + (n - 1) ≤ 18446744073709551615)) := by
  by_cases hm : mayE s l f = 0
  · right
    by_cases h0 : n = 0
    · right
      subst h0
      refine ⟨hm, ?_, ?_, Or.inl rfl⟩
      · unfold coN
        rw [if_pos hm, if_pos rfl]
        simp
      · unfold coE
        rw [if_pos hm, if_pos rfl]
    · by_cases he : t + (n - 1) ≤ 18446744073709551615
      · right
        refine ⟨hm, coN_eq hm hs (by omega) he, ?_, Or.inr he⟩
        unfold coE addE
        rw [if_pos hm, if_neg h0, if_pos he]
      · left
        refine ⟨hm, ?_, ?_, by omega, he⟩
        · unfold coN
          rw [if_pos hm, if_neg h0, if_neg he]
        · unfold coE addE
          rw [if_pos hm, if_neg h0, if_neg he]
  · left
    exact ⟨hm, if_neg hm, if_neg hm⟩
theorem co_at {t n f s l : Int} (hm : mayE s l f = 0) (hs : 0 ≤ s) (hn : 0 ≤ n) (h : n = 0 ∨ t + (n - 1) ≤ 18446744073709551615) :
    coN t n f s l = bef (t + n) f s l - bef t f s l ∧ coE t n f s l = 0 ∧ 0 ≤ coN t n f s l ∧ coN t n f s l ≤ n := by
  obtain ⟨m1, m2, m3⟩ := may_ok hm
  have hb := bef_le f s l hs m1 m2 (t := t) (u := t + n) (by omega)
  rcases co_vals t n f s l hs hn with ⟨h1, _⟩ | ⟨_, _, _, h4, h5⟩ | ⟨_, h2, h3, _⟩
  · exact absurd hm h1
  · omega
  · exact ⟨h2, h3, by omega, by omega⟩

/-- A6: among as many ticks as a frame has, Length are inside -/
theorem bef_frame (t f s l : Int) (hf : f ≠ 0) : bef (t + f) f s l = bef t f s l + l := by
  unfold bef
  rw [Int.add_emod_right, show t + f = t + 1 * f by omega, Int.add_mul_ediv_right _ _ hf, Int.add_mul, Int.one_mul]
  omega

/-- the tick whose number inside is m has just m inside below it, and is inside -/
theorem tickOf_at (m f s l : Int) (m0 : 0 ≤ m) (hs : 0 ≤ s) (hl : 1 ≤ l) (hf : s + l ≤ f) :
    bef (tickOf m f s l) f s l = m ∧ tickOf m f s l % f = s + m % l ∧ 0 ≤ m % l ∧ m % l < l ∧ 0 ≤ tickOf m f s l := by
  have hr := mod_bd m l hl
  have hd := div_bd m l m0 hl
  have h1 := divmod_of (t := tickOf m f s l) (f := f) (q := m / l) (r := s + m % l) rfl (by omega) (by omega)
  have h2 := dm m l
  refine ⟨?_, h1.2, hr.1, hr.2, ?_⟩
  · unfold bef
    rw [h1.1, h1.2]
    unfold pas
    split
    · omega
    · rw [if_pos (by omega)]
      omega
  · have := Int.mul_nonneg hd.1 (show 0 ≤ f by omega)
    unfold tickOf
    omega
/-- what Nth answers, in all: a bad window; beyond the last tick; or the tick, from t on, with just k inside on the way, itself inside -/
theorem nt_vals (t k f s l : Int) (ht : U t) (hk : 0 ≤ k) (hs : 0 ≤ s) :
    (mayE s l f ≠ 0 ∧ ntN t k f s l = 0 ∧ ntE t k f s l = mayE s l f) ∨ (mayE s l f = 0 ∧ ntN t k f s l = 0 ∧ ntE t k f s l = 10) ∨
    (mayE s l f = 0 ∧ ntE t k f s l = 0 ∧ t ≤ ntN t k f s l ∧ ntN t k f s l ≤ 18446744073709551615 ∧ coN t (ntN t k f s l - t) f s l = k ∧ coE t (ntN t k f s l - t) f s l = 0 ∧ 0 < leN (ntN t k f s l) f s l) := by
  by_cases hm : mayE s l f = 0
  · right
    obtain ⟨m1, m2, m3⟩ := may_ok hm
    have hb := bef_bd t f s l ht.1 hs m1 m2
    by_cases hc : bef t f s l + k ≤ 18446744073709551615 ∧ tickOf (bef t f s l + k) f s l ≤ 18446744073709551615
    · right
      have e1 : ntN t k f s l = tickOf (bef t f s l + k) f s l := by unfold ntN; rw [if_pos hm, if_pos hc]
      have e2 : ntE t k f s l = 0 := by unfold ntE; rw [if_pos hm, if_pos hc]
      obtain ⟨x1, x2, x3, x4, x5⟩ := tickOf_at (bef t f s l + k) f s l (by omega) hs m1 m2
      rw [e1]
      generalize tickOf (bef t f s l + k) f s l = u at *
      have hu : t ≤ u := by
        by_cases h : t ≤ u
        · exact h
        · have y1 := bef_succ u f s l hs m1 m2
          have y2 := (bef_le f s l hs m1 m2 (t := u + 1) (u := t) (by omega)).1
          have y3 : insN (u % f) s l = 1 := if_pos (by omega)
          omega
      have z := co_at (t := t) (n := u - t) hm hs (by omega) (by omega)
      have e3 : t + (u - t) = u := by omega
      rw [e3] at z
      refine ⟨hm, e2, hu, hc.2, by omega, z.2.1, ?_⟩
      unfold leN
      rw [if_pos hm, if_pos (by omega)]
      omega
    · left
      unfold ntN ntE
      rw [if_pos hm, if_pos hm, if_neg hc, if_neg hc]
      exact ⟨hm, rfl, rfl⟩
  · left
    exact ⟨hm, if_neg hm, if_neg hm⟩

/-- behind what is left of a window: so many more are inside below it, and it is itself inside only if the window is the frame -/
theorem left_on (t f s l : Int) (hs : 0 ≤ s) (hl : 1 ≤ l) (hf : s + l ≤ f) (h1 : s ≤ t % f) (h2 : t % f < s + l) :
    bef (t + (l - (t % f - s))) f s l = bef t f s l + (l - (t % f - s)) ∧ (l ≠ f → ¬ (s ≤ (t + (l - (t % f - s))) % f ∧ (t + (l - (t % f - s))) % f < s + l)) := by
  have hd := dm t f
  have hp : pas (t % f) s l = t % f - s := by
    unfold pas
    split
    · omega
    · rw [if_pos (by omega)]
  by_cases h : s + l < f
  · have x := divmod_of (t := t + (l - (t % f - s))) (f := f) (q := t / f) (r := s + l) (by omega) (by omega) h
    refine ⟨?_, fun _ => by omega⟩
    unfold bef
    rw [x.1, x.2, hp]
    unfold pas
    rw [if_neg (by omega), if_pos (by omega)]
    omega
  · have x := divmod_of (t := t + (l - (t % f - s))) (f := f) (q := t / f + 1) (r := 0) (by rw [Int.add_mul, Int.one_mul]; omega) (by omega) (by omega)
    refine ⟨?_, fun _ => by omega⟩
    unfold bef
    rw [x.1, x.2, hp, pas_zero s l hs, Int.add_mul, Int.one_mul]
    omega
end Go.Proofs.Ytikipkjanojgaab.Tk
