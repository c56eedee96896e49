/-
  What Nth of the program answers, for any tick, number, frame and window. No conditions: the numbers are uint64.
-/
import Derived.Test.YtikipkjanojgaabCount
namespace Go.Proofs.Ytikipkjanojgaab.Tk
open Go.RowKit
attribute [local go_sem ↓] Go.wp_at_zero Go.wp_at_succ

theorem nt_bad {t k f s l : Int} (h : mayE s l f ≠ 0) : ntN t k f s l = 0 ∧ ntE t k f s l = mayE s l f := ⟨if_neg h, if_neg h⟩
theorem nt_many {t k f s l : Int} (h : mayE s l f = 0) (hb : ¬ bef t f s l + k ≤ 18446744073709551615) : ntN t k f s l = 0 ∧ ntE t k f s l = 10 ∧ addE (bef t f s l) k = 10 := by
  unfold ntN ntE addE
  rw [if_pos h, if_pos h, if_neg (fun x => hb x.1), if_neg (fun x => hb x.1), if_neg hb]
  exact ⟨rfl, rfl, rfl⟩
theorem add_some {a b : Int} (h : a + b ≤ 18446744073709551615) : addN a b = a + b ∧ addE a b = 0 := ⟨if_pos h, if_pos h⟩
theorem add_none {a b : Int} (h : ¬ a + b ≤ 18446744073709551615) : addN a b = 0 ∧ addE a b = 10 := ⟨if_neg h, if_neg h⟩
/-- a turn that may be is one whose first tick there is -/
theorem turn_iff (q f : Int) (hf : 1 ≤ f) : q ≤ 18446744073709551615 / f ↔ q * f ≤ 18446744073709551615 := Int.le_ediv_iff_mul_le (by omega)
theorem nt_far {t k f s l m : Int} (h : mayE s l f = 0) (hs : 0 ≤ s) (e : bef t f s l + k = m) (hq : ¬ m / l ≤ 18446744073709551615 / f) : ntN t k f s l = 0 ∧ ntE t k f s l = 10 := by
  obtain ⟨m1, m2, m3⟩ := may_ok h
  have h1 := (turn_iff (m / l) f (by omega))
  have h2 := mod_bd m l m1
  have h3 : ¬ tickOf m f s l ≤ 18446744073709551615 := by
    unfold tickOf
    have : ¬ m / l * f ≤ 18446744073709551615 := fun x => hq (h1.2 x)
    omega
  unfold ntN ntE
  rw [if_pos h, if_pos h, e, if_neg (fun x => h3 x.2), if_neg (fun x => h3 x.2)]
  exact ⟨rfl, rfl⟩
theorem nt_at {t k f s l m : Int} (h : mayE s l f = 0) (e : bef t f s l + k = m) (hb : m ≤ 18446744073709551615) : ntN t k f s l = addN (m / l * f) (s + m % l) ∧ ntE t k f s l = addE (m / l * f) (s + m % l) := by
  unfold ntN ntE addN addE
  rw [if_pos h, if_pos h, e]
  unfold tickOf
  by_cases hc : m / l * f + (s + m % l) ≤ 18446744073709551615
  · simp [hb, hc]
  · simp [hc]

set_option maxHeartbeats 400000 in
theorem nth_any (t k f s l : Int) (ht : U t) (hk : U k) (hf : U f) (hs : U s) (hl : U l) (w : World) :
    Calls Try.prog 11 #[.int .u64 t, .int .u64 k, .int .u64 f, .agg #[.int .u64 s, .int .u64 l]] w fun e w' => e = .returned (.tuple #[.int .u64 (ntN t k f s l), .int .i64 (ntE t k f s l)]) ∧ Gr w w' := by
  by_cases hm : mayE s l f = 0
  · have Hm := hid hm
    obtain ⟨m1, m2, m3⟩ := may_ok hm
    have b3 := bef_bd t f s l ht.1 hs.1 m1 m2
    have hUb : U (bef t f s l) := ⟨b3.1, by have := ht.2; omega⟩
    by_cases hb : bef t f s l + k ≤ 18446744073709551615
    · obtain ⟨a1, a2⟩ := add_some hb
      obtain ⟨m, hM⟩ : ∃ m, m = bef t f s l + k := ⟨_, rfl⟩
      rw [← hM] at a1 hb
      have H1 := hid a1
      have H2 := hid a2
      have s0 := hs.1
      have m0 : 0 ≤ m := by have := hk.1; omega
      have hd := div_bd m l m0 m1
      have hr := mod_bd m l m1
      have hf1 : 1 ≤ f := by omega
      have hl0 : l ≠ 0 := by omega
      have f1 := hf.2
      have l1 := hl.2
      have ti := turn_iff (m / l) f hf1
      by_cases hq : m / l ≤ 18446744073709551615 / f
      · obtain ⟨k1, k2⟩ := nt_at hm hM.symm hb
        have H3 := hid k1
        have H4 := hid k2
        have hx : m / l * f ≤ 18446744073709551615 := ti.1 hq
        have hx0 : 0 ≤ m / l * f := Int.mul_nonneg hd.1 (by omega)
        have r1 : m.tmod l = m % l := Int.tmod_eq_emod_of_nonneg m0
        have r2 : IntKind.u64.wrap (m / l * f) = m / l * f := wrapU ⟨hx0, hx⟩
        have r3 : IntKind.u64.wrap (s + m % l) = s + m % l := wrapU ⟨by omega, by omega⟩
        have hUx : U (m / l * f) := ⟨hx0, hx⟩
        have hUy : U (s + m % l) := ⟨by omega, by omega⟩
        clear hm hM k1 k2 a1 a2 ti b3
        go_enter Try.func11, Try.ntmps11
        go_wp2_with fail
        refine (may_any s l f hs hl hf _).mono ?_
        rintro e w1 ⟨rfl, g1⟩
        rw [Hm.out]
        obtain ⟨c0, c1, cb, gw⟩ := boxed g1
        clear g1
        go_wp2_with fail
        refine (ahead_any t f s l ht hs hl hf Hm.out _).mono ?_
        rintro e w2 ⟨rfl, g2⟩
        obtain ⟨c0, c1, cb, gw⟩ := held g2 ⟨c0, c1, cb, gw⟩
        clear g2
        go_wp2_with fail
        refine (add_any (bef t f s l) k hUb hk _).mono ?_
        rintro e w3 ⟨rfl, rfl⟩
        rw [H1.out, H2.out]
        go_wp2_with fail
        go_region_held3 (fun w' => w'.cell? ⟨w.heap.size, 0, none⟩ = some (.int .u64 s) ∧ w'.cell? ⟨w.heap.size, 1, none⟩ = some (.int .u64 l) ∧ w.heap.size < w'.heap.size ∧ Gr w w')
          (first | exact ⟨c0, c1, cb, gw⟩ | exact ⟨c0, c1, cb, gw.drew⟩ | assumption)
          (first | (go_at_call 8; refine (add_any (m / l * f) (s + m % l) hUx hUy _).mono ?_; rintro e wm ⟨rfl, rfl⟩))
        all_goals (rename_i hh)
        all_goals go_wp2
        all_goals go_ret2
        all_goals exact ⟨ret2 H3.out.symm H4.out.symm, hh.2.2.2⟩
      · obtain ⟨k1, k2⟩ := nt_far hm hs.1 hM.symm hq
        have H3 := hid k1
        have H4 := hid k2
        clear hm hM k1 k2 a1 a2 ti b3
        go_enter Try.func11, Try.ntmps11
        go_wp2_with fail
        refine (may_any s l f hs hl hf _).mono ?_
        rintro e w1 ⟨rfl, g1⟩
        rw [Hm.out]
        obtain ⟨c0, c1, cb, gw⟩ := boxed g1
        clear g1
        go_wp2_with fail
        refine (ahead_any t f s l ht hs hl hf Hm.out _).mono ?_
        rintro e w2 ⟨rfl, g2⟩
        obtain ⟨c0, c1, cb, gw⟩ := held g2 ⟨c0, c1, cb, gw⟩
        clear g2
        go_wp2_with fail
        refine (add_any (bef t f s l) k hUb hk _).mono ?_
        rintro e w3 ⟨rfl, rfl⟩
        rw [H1.out, H2.out]
        go_wp2
        go_ret2
        exact ⟨ret2 H3.out.symm H4.out.symm, gw⟩
    · obtain ⟨k1, k2, k3⟩ := nt_many hm hb
      have H1 := hid k1
      have H2 := hid k2
      have H3 := hid k3
      clear hm k1 k2 k3 b3
      go_enter Try.func11, Try.ntmps11
      go_wp2_with fail
      refine (may_any s l f hs hl hf _).mono ?_
      rintro e w1 ⟨rfl, g1⟩
      rw [Hm.out]
      obtain ⟨c0, c1, cb, gw⟩ := boxed g1
      clear g1
      go_wp2_with fail
      refine (ahead_any t f s l ht hs hl hf Hm.out _).mono ?_
      rintro e w2 ⟨rfl, g2⟩
      go_wp2_with fail
      refine (add_any (bef t f s l) k hUb hk _).mono ?_
      rintro e w3 ⟨rfl, rfl⟩
      rw [H3.out]
      go_wp2
      go_ret2
      exact ⟨ret2 H1.out.symm H2.out.symm, gw.trans g2⟩
  · obtain ⟨k1, k2⟩ := nt_bad (t := t) (k := k) hm
    have H1 := hid k1
    have H2 := hid k2
    have hne : (mayE s l f != 0) = true := by simpa using hm
    clear hm k1 k2
    go_enter Try.func11, Try.ntmps11
    go_wp2_with fail
    refine (may_any s l f hs hl hf _).mono ?_
    rintro e w1 ⟨rfl, g1⟩
    go_wp2
    go_ret2
    exact ⟨ret2 H1.out.symm H2.out.symm, (boxed g1).2.2.2⟩
end Go.Proofs.Ytikipkjanojgaab.Tk
