/-
  TickAgain: place and turn make the tick again, the next tick of a place has it, less than a frame on: the walk, for any tick, frame and place. No conditions: the numbers are uint64.
-/
import Derived.Test.YtikipkjanojgaaaPlaces
namespace Go.Proofs.Ytikipkjanojgaaa.Tk
open Go.RowKit

theorem ne_own (t f : Int) (ht : U t) (hf : 1 ≤ f) : neN t f (plP t f) = t ∧ neE t f (plP t f) = 0 := by
  have hb := plP_bd t f hf
  have e2 : plP t f = t % f := if_neg (by omega)
  have e3 : far t f (plP t f) = 0 := by
    unfold far
    rw [e2, if_pos (Int.le_refl _)]
    omega
  obtain ⟨t0, t1⟩ := ht
  unfold neN neE
  rw [if_neg (by omega), if_neg (by omega), if_neg (by omega), if_neg (by omega), e3]
  unfold addN addE
  rw [if_pos (by omega), if_pos (by omega)]
  exact ⟨by omega, rfl⟩

/-- the place of the tick that is far on -/
theorem far_place (t f p : Int) (hf : 1 ≤ f) (p0 : 0 ≤ p) (hp : p < f) : (t + far t f p) % f = p := by
  have hm := mod_bd t f hf
  have hd := dm t f
  have key : ∀ k : Int, t + far t f p = k * f + p → (t + far t f p) % f = p := by
    intro k hk
    rw [hk, Int.add_comm, Int.add_mul_emod_self_right]
    exact Int.emod_eq_of_lt p0 hp
  unfold far at *
  split at key
  · rename_i h
    rw [if_pos h]
    exact key (t / f) (by omega)
  · rename_i h
    rw [if_neg h]
    refine key (t / f + 1) ?_
    rw [Int.add_mul, Int.one_mul]
    omega

theorem ne_cases (t f p : Int) (ht : U t) (hf : 1 ≤ f) (hp : U p) :
    (f ≤ p ∧ neN t f p = 0 ∧ neE t f p = 1) ∨ (p < f ∧ neN t f p = 0 ∧ neE t f p = 10) ∨ (p < f ∧ neE t f p = 0 ∧ t ≤ neN t f p ∧ neN t f p - t < f ∧ neN t f p ≤ 18446744073709551615 ∧ plP (neN t f p) f = p) := by
  obtain ⟨t0, t1⟩ := ht
  obtain ⟨p0, p1⟩ := hp
  by_cases h : f ≤ p
  · left
    unfold neN neE
    rw [if_neg (by omega), if_pos h, if_neg (by omega), if_pos h]
    exact ⟨h, rfl, rfl⟩
  · right
    have hd := far_bd t f p hf p0 (by omega)
    have hq := far_place t f p hf p0 (by omega)
    have e1 : neN t f p = addN t (far t f p) := by unfold neN; rw [if_neg (by omega), if_neg h]
    have e2 : neE t f p = addE t (far t f p) := by unfold neE; rw [if_neg (by omega), if_neg h]
    rw [e1, e2]
    unfold addN addE
    by_cases h2 : t + far t f p ≤ 18446744073709551615
    · right
      rw [if_pos h2, if_pos h2]
      refine ⟨by omega, rfl, by omega, by omega, h2, ?_⟩
      have e3 : plP (t + far t f p) f = (t + far t f p) % f := if_neg (by omega)
      rw [e3, hq]
    · left
      rw [if_neg h2, if_neg h2]
      exact ⟨by omega, rfl, rfl⟩

theorem again_any (t f p : Int) (ht : U t) (hf : U f) (hp : U p) (w : World) :
    Calls Try.prog 8 #[.int .u64 t, .int .u64 f, .int .u64 p] w fun e w' => e = .returned (.bool true) ∧ Gr w w' := by
  by_cases h : f = 0
  · subst h
    go_enter Try.func8, Try.ntmps8
    go_wp2_with fail
    refine (lives_any _).mono ?_
    rintro e w0 ⟨rfl, rfl⟩
    go_wp2_with fail
    refine (place_any t 0 ht hf _).mono ?_
    rintro e w1 ⟨rfl, g1⟩
    rw [show plE 0 = 11 from rfl]
    go_wp2
    go_ret
    exact ⟨rfl, g1⟩
  · have hf1 : 1 ≤ f := by have := hf.1; omega
    have hpl := plN_mul t f ht hf1
    have hpb := plP_bd t f hf1
    have how := ne_own t f ht hf1
    have H1 := hid (how.1)
    have H2 := hid (how.2)
    have H3 : Hid (plE f = 0) := if_neg h
    have hUp : U (plP t f) := ⟨hpb.1, by have := hf.2; omega⟩
    have hff := hf.2
    have htt := ht.2
    have t0 := ht.1
    have hs : (plN t f * f + plP t f != t) = false := by simp [hpl.2.2.2.2]
    have hs1 : plN t f * f + plP t f ≤ 18446744073709551615 := by omega
    have hs2 := hpl.2.2.1
    have hs3 : plN t f * f ≤ 18446744073709551615 := by omega
    clear how hpl
    rcases ne_cases t f p ht hf1 hp with hc | hc | hc
    · obtain ⟨c1, c2, c3⟩ := hc
      have H4 := hid (c3)
      clear c3 c2
      go_enter Try.func8, Try.ntmps8
      go_wp2_with fail
      refine (lives_any _).mono ?_
      rintro e w0 ⟨rfl, rfl⟩
      go_wp2_with fail
      refine (place_any t f ht hf _).mono ?_
      rintro e w1 ⟨rfl, g1⟩
      rw [H3.out]
      go_wp2_with fail
      refine (next_any t f (plP t f) ht hf hUp _).mono ?_
      rintro e w2 ⟨rfl, rfl⟩
      rw [H1.out, H2.out]
      go_wp2_with fail
      refine (next_any t f p ht hf hp _).mono ?_
      rintro e w3 ⟨rfl, rfl⟩
      rw [H4.out]
      go_wp2
      go_ret
      exact ⟨rfl, g1⟩
    · obtain ⟨c1, c2, c3⟩ := hc
      have H4 := hid (c3)
      clear c3 c2
      go_enter Try.func8, Try.ntmps8
      go_wp2_with fail
      refine (lives_any _).mono ?_
      rintro e w0 ⟨rfl, rfl⟩
      go_wp2_with fail
      refine (place_any t f ht hf _).mono ?_
      rintro e w1 ⟨rfl, g1⟩
      rw [H3.out]
      go_wp2_with fail
      refine (next_any t f (plP t f) ht hf hUp _).mono ?_
      rintro e w2 ⟨rfl, rfl⟩
      rw [H1.out, H2.out]
      go_wp2_with fail
      refine (next_any t f p ht hf hp _).mono ?_
      rintro e w3 ⟨rfl, rfl⟩
      rw [H4.out]
      go_wp2
      go_ret
      exact ⟨rfl, g1⟩
    · obtain ⟨c1, c2, c3, c4, c5, c6⟩ := hc
      have H4 := hid (c2)
      have H5 := hid (c6)
      clear c2 c6
      go_enter Try.func8, Try.ntmps8
      go_wp2_with fail
      refine (lives_any _).mono ?_
      rintro e w0 ⟨rfl, rfl⟩
      go_wp2_with fail
      refine (place_any t f ht hf _).mono ?_
      rintro e w1 ⟨rfl, g1⟩
      rw [H3.out]
      go_wp2_with fail
      refine (next_any t f (plP t f) ht hf hUp _).mono ?_
      rintro e w2 ⟨rfl, rfl⟩
      rw [H1.out, H2.out]
      go_wp2_with fail
      refine (next_any t f p ht hf hp _).mono ?_
      rintro e w3 ⟨rfl, rfl⟩
      rw [H4.out]
      go_wp2_with fail
      refine (place_any (neN t f p) f ⟨by omega, by omega⟩ hf _).mono ?_
      rintro e w4 ⟨rfl, g4⟩
      rw [H5.out]
      go_wp2
      go_ret
      exact ⟨rfl, g1.trans g4⟩
end Go.Proofs.Ytikipkjanojgaaa.Tk
