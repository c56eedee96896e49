/-
  What Place and Next of the program and of the document answer, for any tick, frame and place. No conditions: the numbers are uint64.
-/
import Derived.Test.YtikipkjanojgaaaAdds
import Derived.Test.YtikipkjanojgaaaSums
import Derived.Test.YtikipkjanojgaaaWorld
import Derived.Deep.QuietTactic
import Derived.BigQuiet
namespace Go.Proofs.Ytikipkjanojgaaa.Tk
open Go.RowKit

theorem plN_mul (t f : Int) (ht : U t) (hf : 1 ≤ f) : 0 ≤ plN t f ∧ plN t f ≤ t ∧ 0 ≤ plN t f * f ∧ plN t f * f ≤ t ∧ plN t f * f + plP t f = t := by
  have e1 : plN t f = t / f := if_neg (by omega)
  have e2 : plP t f = t % f := if_neg (by omega)
  obtain ⟨t0, t1⟩ := ht
  have h1 := div_mul_le t f f t0 hf (by omega) (by omega)
  have h2 := dm t f
  have h3 := div_bd t f t0 hf
  have h4 := mod_bd t f hf
  rw [e1, e2]
  exact ⟨h3.1, h3.2, h1.1, by omega, h2⟩
theorem plP_bd (t f : Int) (hf : 1 ≤ f) : 0 ≤ plP t f ∧ plP t f < f := by
  have e2 : plP t f = t % f := if_neg (by omega)
  rw [e2]
  exact mod_bd t f hf
theorem far_bd (t f p : Int) (hf : 1 ≤ f) (p0 : 0 ≤ p) (hp : p < f) : 0 ≤ far t f p ∧ far t f p < f := by
  have h4 := mod_bd t f hf
  unfold far
  split <;> omega

theorem place_any (t f : Int) (ht : U t) (hf : U f) (w : World) :
    Calls Try.prog 14 #[.int .u64 t, .int .u64 f] w fun e w' => e = .returned (.tuple #[.int .u64 (plP t f), .int .u64 (plN t f), .int .i64 (plE f)]) ∧ Gr w w' := by
  obtain ⟨t0, t1⟩ := ht
  obtain ⟨f0, f1⟩ := hf
  by_cases h : f = 0
  · subst h
    go_enter Try.func14, Try.ntmps14
    go_wp2
    go_ret3
    exact ⟨rfl, Gr.refl _⟩
  · have e1 : plP t f = t % f := if_neg h
    have e2 : plN t f = t / f := if_neg h
    have e3 : plE f = 0 := if_neg h
    have hf1 : 1 ≤ f := by omega
    have hd := div_bd t f t0 hf1
    have hm := mod_bd t f hf1
    rw [e1, e2, e3]
    clear e1 e2 e3
    go_enter Try.func14, Try.ntmps14
    go_wp2
    go_quiet (fail)
    go_wp2
    go_ret3
    exact ⟨rfl, (Gr.refl _).drewN _⟩

theorem rplace_any (t f : Int) (ht : U t) (hf : U f) (w : World) :
    Calls Try.prog 15 #[.int .u64 t, .int .u64 f] w fun e w' => e = .returned (.tuple #[.int .u64 (plP t f), .int .u64 (plN t f), .int .i64 (plE f)]) ∧ Gr w w' := by
  obtain ⟨t0, t1⟩ := ht
  obtain ⟨f0, f1⟩ := hf
  by_cases h : f = 0
  · subst h
    go_enter Try.func15, Try.ntmps15
    go_wp2
    go_ret3
    exact ⟨rfl, Gr.refl _⟩
  · have e1 : plP t f = t % f := if_neg h
    have e2 : plN t f = t / f := if_neg h
    have e3 : plE f = 0 := if_neg h
    have hf1 : 1 ≤ f := by omega
    have hd := div_bd t f t0 hf1
    have hm := mod_bd t f hf1
    rw [e1, e2, e3]
    clear e1 e2 e3
    go_enter Try.func15, Try.ntmps15
    go_wp2
    go_quiet (fail)
    go_wp2
    go_ret3
    exact ⟨rfl, (Gr.refl _).drewN _⟩

theorem way_any (t f p : Int) (hf1 : 1 ≤ f) (f1 : f ≤ 18446744073709551615) (p0 : 0 ≤ p) (hp : p < f) (w : World) :
    Calls Try.prog 26 #[.int .u64 (t % f), .int .u64 p, .int .u64 f] w fun e w' => e = .returned (.int .u64 (far t f p)) ∧ w' = w := by
  have hm := mod_bd t f hf1
  by_cases h : t % f ≤ p
  · have e1 : far t f p = p - t % f := if_pos h
    rw [e1]
    clear e1
    go_enter Try.func26, Try.ntmps26
    go_wp2
    go_ret
    exact ⟨rfl, rfl⟩
  · have e1 : far t f p = f - (t % f - p) := if_neg h
    rw [e1]
    clear e1
    go_enter Try.func26, Try.ntmps26
    go_wp2
    go_ret
    exact ⟨rfl, rfl⟩

theorem next_any (t f p : Int) (ht : U t) (hf : U f) (hp : U p) (w : World) :
    Calls Try.prog 16 #[.int .u64 t, .int .u64 f, .int .u64 p] w fun e w' => e = .returned (.tuple #[.int .u64 (neN t f p), .int .i64 (neE t f p)]) ∧ w' = w := by
  have ht' := ht
  obtain ⟨t0, t1⟩ := ht
  obtain ⟨f0, f1⟩ := hf
  obtain ⟨p0, p1⟩ := hp
  by_cases h : f = 0
  · subst h
    go_enter Try.func16, Try.ntmps16
    go_wp2
    go_ret2
    exact ⟨rfl, rfl⟩
  · have hf1 : 1 ≤ f := by omega
    by_cases h2 : f ≤ p
    · have e1 : neN t f p = 0 := by unfold neN; rw [if_neg h, if_pos h2]
      have e2 : neE t f p = 1 := by unfold neE; rw [if_neg h, if_pos h2]
      rw [e1, e2]
      clear e1 e2
      go_enter Try.func16, Try.ntmps16
      go_wp2
      go_ret2
      exact ⟨rfl, rfl⟩
    · have hd := far_bd t f p hf1 p0 (by omega)
      have hm := mod_bd t f hf1
      have H1 : Hid (neN t f p = addN t (far t f p)) := show neN t f p = _ by unfold neN; rw [if_neg h, if_neg h2]
      have H2 : Hid (neE t f p = addE t (far t f p)) := show neE t f p = _ by unfold neE; rw [if_neg h, if_neg h2]
      go_enter Try.func16, Try.ntmps16
      go_wp2_with (first | (go_at_call 26; refine (way_any t f p hf1 f1 p0 (by omega) _).mono ?_; rintro e w' ⟨rfl, rfl⟩) | (go_at_call 9; refine (add_any t (far t f p) ht' ⟨hd.1, by omega⟩ _).mono ?_; rintro e w' ⟨rfl, rfl⟩))
      go_ret2
      exact ⟨ret2 H1.out.symm H2.out.symm, rfl⟩

theorem rnext_any (t f p : Int) (ht : U t) (hf : U f) (hp : U p) (w : World) :
    Calls Try.prog 17 #[.int .u64 t, .int .u64 f, .int .u64 p] w fun e w' => e = .returned (.tuple #[.int .u64 (neN t f p), .int .i64 (neE t f p)]) ∧ w' = w := by
  have ht' := ht
  obtain ⟨t0, t1⟩ := ht
  obtain ⟨f0, f1⟩ := hf
  obtain ⟨p0, p1⟩ := hp
  by_cases h : f = 0
  · subst h
    go_enter Try.func17, Try.ntmps17
    go_wp2
    go_ret2
    exact ⟨rfl, rfl⟩
  · have hf1 : 1 ≤ f := by omega
    by_cases h2 : f ≤ p
    · have e1 : neN t f p = 0 := by unfold neN; rw [if_neg h, if_pos h2]
      have e2 : neE t f p = 1 := by unfold neE; rw [if_neg h, if_pos h2]
      rw [e1, e2]
      clear e1 e2
      go_enter Try.func17, Try.ntmps17
      go_wp2
      go_ret2
      exact ⟨rfl, rfl⟩
    · have hd := far_bd t f p hf1 p0 (by omega)
      have hm := mod_bd t f hf1
      have H1 : Hid (neN t f p = addN t (far t f p)) := show neN t f p = _ by unfold neN; rw [if_neg h, if_neg h2]
      have H2 : Hid (neE t f p = addE t (far t f p)) := show neE t f p = _ by unfold neE; rw [if_neg h, if_neg h2]
      by_cases h3 : t % f ≤ p
      · have H3 : Hid (far t f p = p - t % f) := if_pos h3
        clear hd
        go_enter Try.func17, Try.ntmps17
        go_wp2_with fail
        refine (radd_any t (p - t % f) ht' ⟨by omega, by omega⟩ _).mono ?_
        rintro e w' ⟨rfl, rfl⟩
        go_wp2
        go_ret2
        exact ⟨ret2 (by rw [H1.out, H3.out]) (by rw [H2.out, H3.out]), rfl⟩
      · have H3 : Hid (far t f p = f - (t % f - p)) := if_neg h3
        clear hd
        go_enter Try.func17, Try.ntmps17
        go_wp2_with fail
        refine (radd_any t (f - (t % f - p)) ht' ⟨by omega, by omega⟩ _).mono ?_
        rintro e w' ⟨rfl, rfl⟩
        go_wp2
        go_ret2
        exact ⟨ret2 (by rw [H1.out, H3.out]) (by rw [H2.out, H3.out]), rfl⟩

theorem places_any (t f p : Int) (ht : U t) (hf : U f) (hp : U p) (w : World) :
    Calls Try.prog 4 #[.int .u64 t, .int .u64 f, .int .u64 p] w fun e w' => e = .returned (.bool true) ∧ Gr w w' := by
  go_enter Try.func4, Try.ntmps4
  go_wp2_with fail
  refine (place_any t f ht hf _).mono ?_
  rintro e w1 ⟨rfl, g1⟩
  go_wp2_with fail
  refine (rplace_any t f ht hf _).mono ?_
  rintro e w2 ⟨rfl, g2⟩
  go_wp2_with fail
  refine (next_any t f p ht hf hp _).mono ?_
  rintro e w3 ⟨rfl, rfl⟩
  go_wp2_with fail
  refine (rnext_any t f p ht hf hp _).mono ?_
  rintro e w4 ⟨rfl, rfl⟩
  go_wp2_with fail
  refine (lives_any _).mono ?_
  rintro e w5 ⟨rfl, rfl⟩
  go_wp2
  go_ret
  exact ⟨rfl, g1.trans g2⟩
end Go.Proofs.Ytikipkjanojgaaa.Tk
